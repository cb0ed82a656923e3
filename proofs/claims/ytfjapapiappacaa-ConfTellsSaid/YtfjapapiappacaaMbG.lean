import Derived.Test.YtfjapapiappacaaMbF
import Derived.Test.YtfjapapiappacaaMbB
import Derived.Lib.AppendZeros
import Derived.Deep.QuietTactic
import Derived.Laws.Rows
import Derived.Test.YtfjapapiappacaaMbD
import Derived.Test.YtfjapapiappacaaRows
import Derived.Lib.Bytes
import Derived.Lib.Bytealg
import Derived.BigQuiet
import Derived.Outline
set_option linter.unusedVariables false
set_option linter.unusedSimpArgs false
set_option maxRecDepth 100000
namespace Go.Proofs.Ytfjapapiappacaa
section
open Go.RowKit
theorem grow_own (w:World) (n cap:Nat) (h0:n≤cap) (hc:cap≤maxLen):(w.drew.alloc (.cells (Builtin.zeroCells #[.int .i64 0] n++Builtin.zeroCells #[.int .i64 0] (cap-n)) 3)).ownsRow w.heap.size 3 1 (.slice (some ⟨w.heap.size,0,none⟩) 0 cap) 0 []:=by
 refine ⟨rfl, .inr ⟨w.heap.size,cap,Builtin.zeroCells #[.int .i64 0] n++Builtin.zeroCells #[.int .i64 0] (cap-n),rfl,Nat.le_refl _, ?_,by omega,hc, ?_,by simp⟩⟩
 ·exact heap_alloc_new w.drew _
 ·simp [Builtin.zeroCells];omega
set_option maxHeartbeats 2000000 in
theorem grow_any (n:Nat) (w:World) (h0:0<n) (hn:n≤1000000):
  Calls Try.prog 77 #[.slice none 0 0, .int .i64 n] w (fun e w'=> ∃ v,e= .returned v∧w'.ownsRow w.heap.size 3 1 v 0 []∧Below w.heap.size w w'):=by
 obtain ⟨i0,hi0,hz0,hs0,hb0⟩:=info_parts infoI
 have hrun:=Lib.run_append_nil_zeros (P:=Try.prog) w 22 3 22 3 i0 (.int .i64 0) .i64 .i64 rfl rfl hi0 hz0 n h0 (by omega) (by omega) (by rw [hb0];omega)
 have hge:=grownCap_ge w n 0 3
 have hle:=grownCap_le_maxLen w n 0 3 (by simp only [maxLen];omega)
 go_enter Try.func77,Try.ntmps77
 go_wp2_with (at_builtin;refine Lib.wpList_append_run _ rfl _ _ _ _ rfl _ _ rfl rfl _ _ hrun ?_)
 go_ret
 refine ⟨_,rfl, ?_, ?_⟩
 ·exact grow_own w n _ hge hle
 ·exact upA (upD (up0 w) 1) _
abbrev Part:=Option Addr×Nat×List Int
def Part.v (p:Part):Value:= .slice p.1 p.2.2.length p.2.1
def tot:List Part→Nat
 | []=>0
 |p::l=>p.2.2.length+tot l
def allP:List Part→List Int
 | []=>[]
 |p::l=>p.2.2++allP l
def pd:Part:=(none,0,[])
theorem tot_take {l:List Part} {k:Nat} (h:k<l.length):tot (l.take (k+1))=tot (l.take k)+(l.getD k pd).2.2.length:=by
 induction l generalizing k with
 |nil=>simp at h
 |cons p l ih=>
  cases k with
  |zero=>simp [tot]
  |succ k=>
   have:=ih (k:=k) (by simpa using h)
   simp only [List.take_succ_cons,tot,this,List.getD_cons_succ]
   omega
theorem allP_take {l:List Part} {k:Nat} (h:k<l.length):allP (l.take (k+1))=allP (l.take k)++(l.getD k pd).2.2:=by
 induction l generalizing k with
 |nil=>simp at h
 |cons p l ih=>
  cases k with
  |zero=>simp [allP]
  |succ k=>
   have:=ih (k:=k) (by simpa using h)
   simp only [List.take_succ_cons,allP,this,List.getD_cons_succ,List.append_assoc]
theorem tot_le (l:List Part) (k:Nat):tot (l.take k)≤tot l:=by
 induction l generalizing k with
 |nil=>simp
 |cons p l ih=>
  cases k with
  |zero=>simp [tot]
  |succ k=>simp only [List.take_succ_cons,tot];have:=ih k;omega
theorem allP_len (l:List Part):(allP l).length=tot l:=by
 induction l with
 |nil=>rfl
 |cons p l ih=>simp [allP,tot,ih]
theorem part_at {w:World} {B:Nat} {A:Option Addr} {l:List Part} (h:Rd w B A (l.map Part.v)) {k:Nat} (hk:k<l.length):
  ∃ ad,A=some ad∧ad.block<B∧w.cell? (ad.add k)=some (.slice (l.getD k pd).1 (l.getD k pd).2.2.length (l.getD k pd).2.1):=by
 obtain ⟨ad,e,hb,hc⟩:=h (by simp;omega)
 refine ⟨ad,e,hb,hc k _ ?_⟩
 simp [List.getD,hk,Part.v]
set_option maxHeartbeats 2000000 in
theorem concat_any (A:Option Addr) (n c:Nat) (l:List Part) (w:World) (hn:n=l.length) (hr:Rd w w.heap.size A (l.map Part.v)) (hp: ∀ k,k<l.length→Rd w w.heap.size (l.getD k pd).1 ((l.getD k pd).2.2.map (Value.int .i64))) (h0:0<tot l) (ht:tot l≤1000000) (hl:l.length≤1000):
  Calls Try.prog 61 #[.slice A n c] w (RetOwn w.heap.size 3 ((allP l).map (Value.int .i64)) w):=by
 subst hn
 obtain ⟨i0,hi0,hz0,hs0,hb0⟩:=info_parts infoI
 go_enter Try.func61,Try.ntmps61
 go_wp2_with fail
 go_loopw [3,11] (fun s i wr=> ∃ k:Nat,k≤l.length∧i= .int .i64 k∧s= .int .i64 (tot (l.take k):Nat)∧w=wr) (fun _ i _=>l.length-(intOf i).toNat)
 case atStart=>exact ⟨0,by omega,rfl,rfl,rfl⟩
 case round=>
  obtain ⟨k,hk,rfl,rfl,rfl⟩:=hrel
  by_cases hlt:k<l.length
  ·obtain ⟨ad,rfl,hb,hc⟩:=part_at hr hlt
   have h1:=tot_take hlt
   have h2:=tot_le l (k+1)
   obtain ⟨⟨pa,pc,px⟩,hpd⟩: ∃ p,l.getD k pd=p:=⟨_,rfl⟩
   rw [hpd] at hc h1
   simp only at hc h1
   clear hpd
   go_wp2_with fail
   go_round
   case rel=>
    refine ⟨k+1,by omega,by go_num, ?_,by first |rfl |trivial⟩
    rw [h1];go_num
   case measure=>simp [intOf];omega
  ·obtain rfl:k=l.length:=by omega
   rw [List.take_length]
   go_wp2_with (go_at_call 77;refine (grow_any _ _ h0 ht).mono ?_;rintro e w1 ⟨v1,rfl,hown1,hb1⟩)
   go_loopw [6,27] (fun v i wr=> ∃ k:Nat,k≤l.length∧i= .int .i64 k∧wr.ownsRow w.heap.size 3 1 v (tot (l.take k)) ((allP (l.take k)).map (Value.int .i64))∧Below w.heap.size w wr) (fun _ i _=>l.length-(intOf i).toNat)
   case atStart=>exact ⟨0,by omega,rfl,by simpa [tot,allP] using hown1,hb1⟩
   case round=>
    obtain ⟨k,hk,rfl,hown2,hb2⟩:=hrel
    have hs2:=hb2.size
    by_cases hlt:k<l.length
    ·obtain ⟨ad,rfl,hb,hc⟩:=part_at (hr.below hb2 (Nat.le_refl _)) hlt
     have hrk:=(hp k hlt).below hb2 (Nat.le_refl _)
     have h1:=tot_take hlt
     have h2:=tot_le l (k+1)
     have h3:=allP_take hlt
     obtain ⟨⟨pa,pc,px⟩,hpd⟩: ∃ p,l.getD k pd=p:=⟨_,rfl⟩
     rw [hpd] at hc h1 hrk h3
     simp only at hc h1 hrk h3
     have HA:=Lib.hid h3
     clear hpd h3
     go_wp2_with (at_builtin;refine wp_appR _ rfl (.tmp 31) (.tmp 32) _ rfl w.heap.size 3 i0 _ 8 Try.underlying22 hi0 hz0 hs0 hb0 rfl _ _ _ rfl hown2 w.heap.size _ _ _ _ rfl (by rw [List.length_map]) hrk (ints_one _ _) (by omega) (by omega) hs2 ?_;intro v3 w3 hown3 hb3)
     go_round
     case rel=>
      refine ⟨k+1,by omega,by go_num, ?_,hb2.trans hb3⟩
      rw [h1,HA.out,List.map_append]
      exact hown3
     case measure=>simp [intOf];omega
    ·obtain rfl:k=l.length:=by omega
     go_wp2
     go_ret
     rw [List.take_length] at hown2
     refine ⟨_,rfl, ?_,hb2⟩
     rw [List.length_map,allP_len]
     exact hown2
set_option maxHeartbeats 2000000 in
theorem clone_any (A:Option Addr) (n c:Nat) (xs:List Int) (w:World) (hn:n=xs.length) (hr:Rd w w.heap.size A (xs.map (Value.int .i64))) (hs:n≤1000000):
  Calls Try.prog 33 #[.slice A n c] w (RetOwn w.heap.size 3 (xs.map (Value.int .i64)) w):=by
 subst hn
 obtain ⟨i0,hi0,hz0,hs0,hb0⟩:=info_parts infoI
 cases A with
 |none=>
  have hx:xs=[]:=by have:=hr.none_nil;simpa using this
  subst hx
  have he: ∀ w:World,(binOp .eql 22 (.slice none 0 c) (.slice none 0 0)).run Try.prog w= .ok (.bool true) w:=fun _=>rfl
  go_enter Try.func33,Try.ntmps33
  go_wp2_with fail
  go_ret
  exact ⟨_,rfl,World.ownsRow_nil _ _ _ _,up0 _⟩
 |some ad=>
  have hlit:=own_lit1 w 3 _ rfl
  have he: ∀ w:World,(binOp .eql 22 (.slice (some ad) xs.length c) (.slice none 0 0)).run Try.prog w= .ok (.bool false) w:=fun _=>rfl
  go_enter Try.func33,Try.ntmps33
  go_wp2_with (at_builtin;refine wp_appR _ rfl (.tmp 5) (.tmp 6) _ rfl w.heap.size 3 i0 _ 8 Try.underlying22 hi0 hz0 hs0 hb0 rfl _ 0 [] rfl hlit (w.alloc (.cells #[] 3)).heap.size (some ad) xs.length c (xs.map (Value.int .i64)) rfl (by simp) (hr.allocT _) (ints_one _ _) (by omega) (by omega) (by simp) ?_;intro v1 w1 hown1 hb1)
  go_ret
  refine ⟨_,rfl, ?_,(upA (up0 w) _).trans hb1⟩
  have:=own_zero hown1
  rwa [List.length_map]
end
end Go.Proofs.Ytfjapapiappacaa
namespace Go.Proofs.Ytfjapapiappacaa.Px
section
open Go.RowKit Go.Proofs.Ytfjapapiappacaa.Rx
def PartOk (a:AV) (l:List Int):Prop:=(a= .nils∧l=[])∨ ∃ g,a= .row 1 l.length g∧ ∀ i,i<l.length→g i 0= .int .i64 (l.getD i 0)
theorem PartOk.nil:PartOk .nils []:= .inl ⟨rfl,rfl⟩
theorem PartOk.row (l:List Int):PartOk (.row 1 l.length (rowI l)) l:= .inr ⟨_,rfl,fun _ _=>rfl⟩
theorem PartOk.rep {w:World} {R:Nat→Prop} {a:AV} {l:List Int} {v:Value} (h:PartOk a l) (hr:RepP w R a v) (hR: ∀ g,R g→g<w.heap.size): ∃ A c,v= .slice A l.length c∧Rd w w.heap.size A (l.map (Value.int .i64)):=by
 rcases h with ⟨rfl,rfl⟩|⟨g,rfl,hg⟩
 ·cases hr with
  |nils=>exact ⟨none,0,rfl,Rd.nil⟩
 ·obtain ⟨A,c,e,_,_,h⟩:=hr.ints hR rfl hg
  exact ⟨A,c,e,h⟩
theorem one_arg {args:List AV} {vs:Array Value} {a:AV} (h:args=[a]) (hl:args.length=vs.size) {w:World} {R:Nat→Prop} (ha: ∀ (j:Nat) a v,args[j]? =some a→vs[j]? =some v→RepP w R a v): ∃ v,vs= #[v]∧RepP w R a v:=by
 subst h
 obtain ⟨vs⟩:=vs
 match vs,hl with
 | [v],_=>exact ⟨v,rfl,ha 0 a v rfl rfl⟩
theorem cloneC {a:AV} {l:List Int} (h:PartOk a l) (hl:l.length≤1000000):PureC Try.prog 33 [a] (.own 0 0 1 0 l.length) [blkI l]:=
 PureC.ofOwn (k:= .i64) (l:=l) rfl (fun _ _=>rfl) fun w R vs hR hn ha=>by
  obtain ⟨v,rfl,hv⟩:=one_arg rfl hn ha
  obtain ⟨A,c,rfl,hr⟩:=h.rep hv hR
  exact clone_any A _ c l w rfl hr hl
def partV:Value→Option Addr×Nat
 | .slice A _ c=>(A,c)
 |_=>(none,0)
theorem allP_flat (l:List Part):allP l=(l.map (·.2.2)).flatten:=by
 induction l with
 |nil=>rfl
 |cons p l ih=>simp [allP,ih]
theorem concatC {f:Nat→Nat→AV} {L:List (List Int)} (h: ∀ i,i<L.length→PartOk (f i 0) (L.getD i [])) (h0:0<L.flatten.length) (ht:L.flatten.length≤1000000) (hL:L.length≤1000):
  PureC Try.prog 61 [.row 1 L.length f] (.own 0 0 1 0 L.flatten.length) [blkI L.flatten]:=
 PureC.ofOwn (k:= .i64) (l:=L.flatten) rfl (fun _ _=>rfl) fun w R vs hR hn ha=>by
  obtain ⟨v,rfl,hv⟩:=one_arg rfl hn ha
  cases hv with
  |row A cap u hnc hc hA h1 hu=>
   let l:List Part:=(List.range L.length).map fun i=>((partV (u i 0)).1,(partV (u i 0)).2,L.getD i [])
   have hll:l.length=L.length:=by simp [l]
   have hfl:l.map (·.2.2)=L:=by
    apply List.ext_getElem (by simp [l])
    intro i h1 h2
    simp [l,List.getD,h2]
   have hall:allP l=L.flatten:=by rw [allP_flat,hfl]
   have hpt: ∀ i,i<L.length→l.getD i pd=((partV (u i 0)).1,(partV (u i 0)).2,L.getD i []):=fun i hi=>by
    simp [l,List.getD,hi]
   have hui: ∀ i,i<L.length→u i 0=Part.v (l.getD i pd)∧Rd w w.heap.size (l.getD i pd).1 ((l.getD i pd).2.2.map (Value.int .i64)):=fun i hi=>by
    obtain ⟨A',c',e,hr⟩:=(h i hi).rep (hu i hi 0 (by omega)) hR
    rw [hpt i hi,e]
    exact ⟨rfl,hr⟩
   have htot:tot l=L.flatten.length:=by rw [←allP_len,hall]
   rw [←hall]
   refine concat_any A _ cap l w hll.symm (fun hl=> ?_) (fun i hi=>(hui i (by omega)).2) (by omega) (by omega) (by omega)
   rw [List.length_map,hll] at hl
   obtain ⟨g,o,rfl,hg,hcell⟩:=hA (by omega)
   refine ⟨⟨g,o,none⟩,rfl,hR g hg,fun j x hx=> ?_⟩
   have hj:j<L.length:=by
    have:=(List.getElem?_eq_some_iff.1 hx).1
    simpa [hll] using this
   rw [show Addr.add ⟨g,o,none⟩ j=⟨g,o+j,none⟩ from adr_mk g o j]
   have h4:=hcell j hj 0 (by omega)
   rw [show o+(j*1+0)=o+j by omega] at h4
   rw [h4,(hui j hj).1]
   rw [List.getElem?_map,List.getElem?_eq_getElem (by omega),Option.map_some,Option.some.injEq] at hx
   rw [←hx]
   simp [List.getD,hj,hll]
end
end Go.Proofs.Ytfjapapiappacaa.Px
namespace Go.Proofs.Ytfjapapiappacaa
section
namespace Cd
def nrB (n:Int):Bool:=decide (-1≤n)&&decide (n≤253)
theorem nrB_iff {n:Int}:nrB n=true↔ -1≤n∧n≤253:=by simp [nrB]
theorem nrB_not {n:Int}:nrB n=false↔n< -1∨253<n:=by
 cases h:nrB n
 ·simp [nrB] at h;simp;omega
 ·have:=nrB_iff.1 h;simp;omega
def byteAt (n:Int) (k:Nat):Int:=n%18446744073709551616/2^(8*(7-k))%256
def eight (n:Int):List Int:=(List.range 8).map (byteAt n)
def putN (n:Int):List Int:=if nrB n=true then [n+1] else 255::eight n
def putL:List Int→List Int
 | []=>[]
 |n::l=>putN n++putL l
def numOf (ys:List Int):Int:=ys.foldl (fun u x=>u*256+x) 0
def toI (u:Int):Int:=if u<9223372036854775808 then u else u-18446744073709551616
def fst1:List Int→Option (Int×Nat)
 | []=>none
 |b::r=>if b=255 then (if r.length<8 then none else if nrB (toI (numOf (r.take 8)))=true then none else some (toI (numOf (r.take 8)),9)) else some (b-1,1)
def getF:Nat→List Int→Option (List Int)
 |0,_=>some []
 |f+1,b=>if b=[] then some [] else match fst1 b with
  |none=>none
  |some (n,k)=>(getF f (b.drop k)).map (n:: ·)
def getL (b:List Int):Option (List Int):=getF b.length b
def isB (xs:List Int):Prop:= ∀ x∈xs,0≤x∧x<256
def isI (xs:List Int):Prop:= ∀ x∈xs, -9223372036854775808≤x∧x<9223372036854775808
theorem fst1_size {b:List Int} {n:Int} {k:Nat} (h:fst1 b=some (n,k)):1≤k∧k≤b.length∧(k=1∨k=9):=by
 cases b with
 |nil=>simp [fst1] at h
 |cons x r=>
  simp only [fst1] at h
  split at h
  ·split at h
   ·cases h
   ·split at h
    ·cases h
    ·simp at h;simp;omega
  ·simp at h;simp;omega
theorem getF_fuel: ∀ (f:Nat) (b:List Int),b.length≤f→getF f b=getF b.length b:=by
 intro f
 induction f using Nat.strongRecOn with
 |ind f ih=>
  intro b hb
  cases b with
  |nil=>cases f<;>simp [getF]
  |cons x r=>
   cases f with
   |zero=>simp at hb
   |succ f=>
    simp only [List.length_cons,getF,reduceCtorEq,if_false]
    cases h:fst1 (x::r) with
    |none=>rfl
    |some p=>
     obtain ⟨n,k⟩:=p
     have hk:=fst1_size h
     simp only [List.length_cons] at hk hb
     have hd:((x::r).drop k).length≤r.length:=by rw [List.length_drop];simp;omega
     have e1:=ih f (by omega) ((x::r).drop k) (by omega)
     have e2:=ih r.length (by omega) ((x::r).drop k) hd
     simp only [e1,e2]
theorem getL_nil:getL []=some []:=rfl
theorem getL_none {b:List Int} (hb:b≠[]) (h:fst1 b=none):getL b=none:=by
 cases b with
 |nil=>exact absurd rfl hb
 |cons x r=>simp [getL,getF,h]
theorem getL_step {b:List Int} {n:Int} {k:Nat} (h:fst1 b=some (n,k)):getL b=(getL (b.drop k)).map (n:: ·):=by
 cases b with
 |nil=>simp [fst1] at h
 |cons x r=>
  have hk:=fst1_size h
  have hd:((x::r).drop k).length≤r.length:=by rw [List.length_drop];simp at hk ⊢;omega
  unfold getL
  rw [←getF_fuel r.length _ hd]
  simp [getF,h]
theorem getL_acc {b rest acc:List Int} {n:Int} {k:Nat} (hg:getL b=(getL rest).map (acc++ ·)) (h:fst1 rest=some (n,k)):getL b=(getL (rest.drop k)).map ((acc++[n])++ ·):=by
 rw [hg,getL_step h,Option.map_map]
 congr 1
 funext l
 simp
theorem getF_len: ∀ (f:Nat) (b l:List Int),b.length≤f→getF f b=some l→l.length≤b.length
 |0,b,l,hb,h=>by simp [getF] at h;subst h;simp
 |f+1,b,l,hb,h=>by
  unfold getF at h
  split at h
  ·simp at h;subst h;simp
  ·cases hf:fst1 b with
   |none=>rw [hf] at h;cases h
   |some p=>
    obtain ⟨n,k⟩:=p
    rw [hf] at h
    have hk:=fst1_size hf
    have hd:(b.drop k).length≤f:=by rw [List.length_drop];omega
    cases hg:getF f (b.drop k) with
    |none=>simp [hg] at h
    |some m=>
     simp [hg] at h
     subst h
     have:=getF_len f (b.drop k) m hd hg
     rw [List.length_drop] at this
     simp;omega
theorem getL_len {b l:List Int} (h:getL b=some l):l.length≤b.length:=getF_len _ _ _ (Nat.le_refl _) h
theorem numOf_snoc (ys:List Int) (x:Int):numOf (ys++[x])=numOf ys*256+x:=by simp [numOf,List.foldl_append]
theorem rev_ind {α:Type} {P:List α→Prop} (h0:P []) (h1: ∀ l x,P l→P (l++[x])) (l:List α):P l:=by
 have h: ∀ (n:Nat) (l:List α),l.length=n→P l:=by
  intro n
  induction n with
  |zero=>intro l hl;rw [List.length_eq_zero_iff.1 hl];exact h0
  |succ n ih=>
   intro l hl
   have hne:l≠[]:=by rintro rfl;simp at hl
   rw [←List.dropLast_concat_getLast hne]
   exact h1 _ _ (ih _ (by simp [hl]))
 exact h _ l rfl
theorem numOf_bd {ys:List Int} (h:isB ys):0≤numOf ys∧numOf ys<256^ys.length:=by
 revert h
 refine rev_ind (P:=fun ys=>isB ys→0≤numOf ys∧numOf ys<256^ys.length) (fun _=>by simp [numOf]) ?_ ys
 ·intro ys x ih h
  have h1:=ih (fun y hy=>h y (by simp [hy]))
  have h2:=h x (by simp)
  rw [numOf_snoc,List.length_append,List.length_singleton,Int.pow_succ]
  omega
theorem eight_len (n:Int):(eight n).length=8:=by simp [eight]
theorem byteAt_bd (n:Int) (k:Nat):0≤byteAt n k∧byteAt n k<256:=by unfold byteAt;omega
theorem eight_isB (n:Int):isB (eight n):=by
 intro x hx
 obtain ⟨k,_,rfl⟩:=List.mem_map.1 hx
 exact byteAt_bd n k
theorem putN_isB {n:Int}:isB (putN n):=by
 intro x hx
 unfold putN at hx
 split at hx
 ·rename_i h;have:=nrB_iff.1 h;simp at hx;omega
 ·rcases List.mem_cons.1 hx with h |h
  ·omega
  ·exact eight_isB n x h
theorem putL_isB: ∀ (l:List Int),isB (putL l)
 | []=>fun x hx=>by simp [putL] at hx
 |n::l=>fun x hx=>by
  rcases List.mem_append.1 hx with h |h
  ·exact putN_isB x h
  ·exact putL_isB l x h
theorem numOf_eight {n:Int}:numOf (eight n)=n%18446744073709551616:=by
 simp only [numOf,eight,byteAt,List.range,List.range.loop,List.map_cons,List.map_nil,List.foldl_cons,List.foldl_nil]
 simp only [Nat.reduceSub,Nat.reduceMul,Int.reducePow]
 omega
theorem toI_mod {n:Int} (h1: -9223372036854775808≤n) (h2:n<9223372036854775808):toI (n%18446744073709551616)=n:=by unfold toI;omega
theorem putN_len (n:Int):(putN n).length=if nrB n=true then 1 else 9:=by
 unfold putN;split<;>simp [eight_len]
theorem fst1_put {n:Int} (h1: -9223372036854775808≤n) (h2:n<9223372036854775808) (r:List Int):fst1 (putN n++r)=some (n,(putN n).length):=by
 unfold putN
 cases h:nrB n
 ·simp only [Bool.false_eq_true,if_false,List.cons_append,fst1,if_true]
  have hl:(eight n++r).take 8=eight n:=by rw [List.take_append_of_le_length (by rw [eight_len];omega),List.take_of_length_le (by rw [eight_len];omega)]
  rw [hl,numOf_eight,toI_mod h1 h2,if_neg (by simp [eight_len]),if_neg (by simp [h])]
  simp [eight_len]
 ·have hh:=nrB_iff.1 h
  simp only [if_true,List.cons_append,List.nil_append,fst1]
  rw [if_neg (by omega)]
  simp
theorem get_put: ∀ {l:List Int},isI l→getL (putL l)=some l
 | [],_=>rfl
 |n::l,h=>by
  have hn:=h n (by simp)
  have ih:=get_put (l:=l) (fun x hx=>h x (by simp [hx]))
  have h1:=fst1_put hn.1 hn.2 (putL l)
  show getL (putN n++putL l)=_
  rw [getL_step h1]
  simp [ih]
theorem put_inj {l m:List Int} (hl:isI l) (hm:isI m):putL l=putL m↔l=m:=by
 constructor
 ·intro h
  have:=get_put hl
  rw [h,get_put hm] at this
  simpa using this.symm
 ·rintro rfl;rfl
theorem putL_append (l m:List Int):putL (l++m)=putL l++putL m:=by
 induction l with
 |nil=>rfl
 |cons n l ih=>simp [putL,ih]
theorem putL_snoc (l:List Int) (n:Int):putL (l++[n])=putL l++putN n:=by rw [putL_append];simp [putL]
theorem putL_len_le (l:List Int):(putL l).length≤9*l.length:=by
 induction l with
 |nil=>simp [putL]
 |cons n l ih=>
  have:=putN_len n
  simp only [putL,List.length_append,List.length_cons]
  split at this<;>omega
theorem isB_append {a b:List Int} (ha:isB a) (hb:isB b):isB (a++b):=fun x hx=>(List.mem_append.1 hx).elim (ha x) (hb x)
theorem bytesOf_inj {a b:List Int} (ha:isB a) (hb:isB b) (h:Lib.bytesOf a=Lib.bytesOf b):a=b:=by
 unfold Lib.bytesOf at h
 have hl:a.length=b.length:=by simpa using congrArg List.length h
 apply List.ext_getElem hl
 intro i h1 h2
 have e:(a.map fun n=>UInt8.ofNat n.toNat)[i]'(by simpa using h1)=(b.map fun n=>UInt8.ofNat n.toNat)[i]'(by simpa using h2):=by simp only [h]
 simp only [List.getElem_map] at e
 have x1:=ha a[i] (List.getElem_mem h1)
 have x2:=hb b[i] (List.getElem_mem h2)
 have e2:=congrArg UInt8.toNat e
 simp only [UInt8.toNat_ofNat'] at e2
 omega
end Cd
end
end Go.Proofs.Ytfjapapiappacaa
namespace Go.Proofs.Ytfjapapiappacaa
section
open Go.RowKit
theorem narrow_any (n:Int) (w:World):Calls Try.prog 63 #[.int .i64 n] w (Ret (.bool (Cd.nrB n)) w):=by
 by_cases h1: -1≤n
 all_goals by_cases h2:n≤253
 all_goals
  go_enter Try.func63,Try.ntmps63
  go_wp2
  go_ret
  exact Ret.b rfl (by simp [Cd.nrB];omega)
theorem eight_snoc (m:Int) (k:Nat) (h:k<8):(Cd.eight m).take (k+1)=(Cd.eight m).take k++[Cd.byteAt m k]:=by
 rw [List.take_succ_eq_append_getElem (by rw [Cd.eight_len];exact h)]
 simp [Cd.eight]
theorem byteAt_w (m:Int) (k:Nat):IntKind.u64.wrap m/2^(8*(7-k))%256=Cd.byteAt m k:=by unfold Cd.byteAt;rw [IntKind.wrap_u64]
theorem RetOwn.mk {B:Nat} {t:TypeId} {xs ys:List Value} {n:Nat} {w w':World} {v:Value} (h:w'.ownsRow B t 1 v n ys) (he:ys=xs) (hb:Below B w w'):RetOwn B t xs w (.returned v) w':=by
 subst he
 have:=own_len h
 subst this
 exact ⟨v,rfl,h,hb⟩
set_option maxHeartbeats 1000000 in
theorem put_any (B:Nat) (v:Value) (n:Nat) (xs:List Int) (m:Int) (w:World) (hown:w.ownsRow B 5 1 v n (xs.map (Value.int .u8))) (hB:B≤w.heap.size) (hn:n≤1099511627000)
  (h1: -9223372036854775808≤m) (h2:m<9223372036854775808):
  Calls Try.prog 62 #[v, .int .i64 m] w (RetOwn B 5 ((xs++Cd.putN m).map (Value.int .u8)) w):=by
 obtain ⟨i0,hi0,hz0,hs0,hb0⟩:=info_parts infoB
 cases hnr:Cd.nrB m
 ·have hp:(xs++Cd.putN m).map (Value.int .u8)=(xs.map (Value.int .u8)++[Value.int .u8 255])++(Cd.eight m).map (Value.int .u8):=by simp [Cd.putN,hnr]
  have HP:=Lib.hid hp
  clear hp
  go_enter Try.func62,Try.ntmps62
  go_wp2_with (first
   | (go_at_call 63;refine (narrow_any _ _).mono ?_;rintro e w' ⟨rfl,rfl⟩)
   | (at_builtin;refine wp_app1 _ rfl (.tmp 14) (.tmp 15) _ rfl B 5 i0 _ 1 Try.underlying33 hi0 hz0 hs0 hb0 rfl v n _ rfl hown (.int .u8 255) rfl rfl (by omega) (by omega) hB ?_;intro v1 w1 hown1 hb1))
  go_loopw [0,5] (fun v i wr=> ∃ k:Nat,k≤8∧i= .int .i64 (7-k)∧wr.ownsRow B 5 1 v (n+1+k) ((xs.map (Value.int .u8)++[Value.int .u8 255])++((Cd.eight m).take k).map (Value.int .u8))∧Below B w wr) (fun _ i _=>(intOf i+1).toNat)
  case atStart=>exact ⟨0,by omega,rfl,by simpa using hown1,hb1⟩
  case round=>
   obtain ⟨k,hk,rfl,hown2,hb2⟩:=hrel
   by_cases hlt:k<8
   ·have hB2:B≤wr.heap.size:=by have:=hb2.size;omega
    go_wp2_with (at_builtin;refine wp_app1 _ rfl (.tmp 21) (.tmp 28) _ rfl B 5 i0 _ 1 Try.underlying33 hi0 hz0 hs0 hb0 rfl _ (n+1+k) _ rfl hown2 _ rfl rfl (by omega) (by omega) hB2 ?_;intro v3 w3 hown3 hb3)
    go_round
    case rel=>
     refine ⟨k+1,by omega,by go_num, ?_,hb2.trans hb3⟩
     rw [eight_snoc m k hlt,List.map_append,List.map_cons,List.map_nil, ←List.append_assoc]
     rw [byteAt_w] at hown3
     exact hown3
    case measure=>simp [intOf];omega
   ·have:k=8:=by omega
    subst this
    go_wp2
    go_ret
    refine RetOwn.mk hown2 ?_ hb2
    rw [HP.out,List.take_of_length_le (by rw [Cd.eight_len];omega)]
 ·have hm:=Cd.nrB_iff.1 hnr
  obtain ⟨hm1,hm2⟩:=hm
  have hp:(xs++Cd.putN m).map (Value.int .u8)=xs.map (Value.int .u8)++[Value.int .u8 (m+1)]:=by simp [Cd.putN,hnr]
  have HP:=Lib.hid hp
  clear hp
  go_enter Try.func62,Try.ntmps62
  go_wp2_with (first
   | (go_at_call 63;refine (narrow_any _ _).mono ?_;rintro e w' ⟨rfl,rfl⟩)
   | (at_builtin;refine wp_app1 _ rfl (.tmp 8) (.tmp 12) _ rfl B 5 i0 _ 1 Try.underlying33 hi0 hz0 hs0 hb0 rfl v n _ rfl hown (.int .u8 (m+1)) rfl rfl (by omega) (by omega) hB ?_;intro v1 w1 hown1 hb1))
  go_ret
  exact RetOwn.mk hown1 HP.out.symm hb1
theorem isI_at {l:List Int} (h:Cd.isI l) {k:Nat} (hk:k<l.length): -9223372036854775808≤l.getD k 0∧l.getD k 0<9223372036854775808:=by
 have:=h l[k] (List.getElem_mem hk)
 simpa [List.getD,hk] using this
theorem take_snoc (l:List Int) (k:Nat) (h:k<l.length):l.take (k+1)=l.take k++[l.getD k 0]:=by
 rw [List.take_succ_eq_append_getElem h]
 simp [List.getD,h]
set_option maxHeartbeats 1000000 in
theorem Put_any (A:Option Addr) (n c:Nat) (l:List Int) (w:World) (hn:n=l.length) (hx:Rd w w.heap.size A (l.map (Value.int .i64))) (hl:Cd.isI l) (hs:n≤1000000):
  Calls Try.prog 42 #[.slice A n c] w (RetOwn w.heap.size 5 ((Cd.putL l).map (Value.int .u8)) w):=by
 subst hn
 obtain ⟨i0,hi0,hz0,hs0,hb0⟩:=info_parts infoB
 go_enter Try.func42,Try.ntmps42
 go_wp2_with (at_make;refine wpList_make_own _ rfl _ _ 33 rfl w.heap.size 5 i0 _ 1 Try.underlying33 hi0 hz0 hs0 _ _ _ l.length rfl rfl (by omega) (by rw [hb0];omega) (by simp only [maxLen];omega) (by omega) ?_;intro w1 hown1 hg1)
 have hb1:Below w.heap.size w w1:=(Below.refl _ _).grown hg1 (by omega) (by simp)
 go_loopw [3,11] (fun v i wr=> ∃ k:Nat,k≤l.length∧i= .int .i64 k∧wr.ownsRow w.heap.size 5 1 v ((Cd.putL (l.take k)).map (Value.int .u8)).length ((Cd.putL (l.take k)).map (Value.int .u8))∧Below w.heap.size w wr) (fun _ i _=>l.length-(intOf i).toNat)
 case atStart=>exact ⟨0,by omega,rfl,by simpa [Cd.putL] using hown1,hb1⟩
 case round=>
  obtain ⟨k,hk,rfl,hown2,hb2⟩:=hrel
  have hs2:=hb2.size
  by_cases hlt:k<l.length
  ·have hx2:=hx.below hb2 (by omega)
   obtain ⟨ad,rfl,hb,hc⟩:=hx2.at_ (k:=k) hlt
   have hz:=isI_at hl hlt
   have hlen:((Cd.putL (l.take k)).map (Value.int .u8)).length≤9000000:=by
    rw [List.length_map]
    have:=Cd.putL_len_le (l.take k)
    rw [List.length_take] at this
    omega
   go_wp2_with (go_at_call 62;refine (put_any w.heap.size _ _ _ _ _ hown2 (by omega) (by omega) (by first |exact hz.1 | (simpa [List.getD,hlt] using hz.1)) (by first |exact hz.2 | (simpa [List.getD,hlt] using hz.2))).mono ?_;rintro e w' ⟨v3,rfl,hown3,hb3⟩)
   go_round
   case rel=>
    refine ⟨k+1,by omega,by go_num, ?_,hb2.trans hb3⟩
    rw [take_snoc l k hlt,Cd.putL_snoc]
    simpa [List.getD,hlt] using hown3
   case measure=>simp [intOf];omega
  ·go_wp2
   go_ret
   have hk:k=l.length:=by omega
   subst hk
   rw [List.take_of_length_le (by omega)] at hown2
   exact ⟨_,rfl,hown2,hb2⟩
end
end Go.Proofs.Ytfjapapiappacaa
namespace Go.Proofs.Ytfjapapiappacaa
section
open Go.RowKit
def Ret3 (a b:Int) (c:Bool) (w:World) (e:Ending) (w':World):Prop:=e= .returned (.tuple #[.int .i64 a, .int .i64 b, .bool c])∧w=w'
def No3 (w:World) (e:Ending) (w':World):Prop:= ∃ a b:Int,e= .returned (.tuple #[.int .i64 a, .int .i64 b, .bool false])∧w=w'
theorem Ret3.mk {X Y Z:Value} {a a' b b':Int} {c c':Bool} {w:World} (hx:X= .int .i64 a') (hy:Y= .int .i64 b') (hz:Z= .bool c') (h1:a'=a) (h2:b'=b) (h3:c'=c):Ret3 a b c w (.returned (.tuple #[X,Y,Z])) w:=by
 subst h1 h2 h3;exact ⟨by rw [hx,hy,hz],rfl⟩
theorem No3.mk {X Y Z:Value} {a' b':Int} {c':Bool} {w:World} (hx:X= .int .i64 a') (hy:Y= .int .i64 b') (hz:Z= .bool c') (h3:c'=false):No3 w (.returned (.tuple #[X,Y,Z])) w:=by
 subst h3;exact ⟨_,_,by rw [hx,hy,hz],rfl⟩
theorem first_one (A:Option Addr) (B n c:Nat) (x:Int) (r:List Int) (w:World) (hn:n=(x::r).length) (hx:Rd w B A ((x::r).map (Value.int .u8))) (h0:0≤x) (h1:x<256) (hne:x≠255):
  Calls Try.prog 43 #[.slice A n c] w (Ret3 (x-1) 1 true w):=by
 subst hn
 obtain ⟨ad,rfl,hb,hc⟩:=hx.at_ (k:=0) (by simp)
 have hc0:w.cell? ad=some (.int .u8 x):=by simpa [adr_zero] using hc
 have hl:0<(x::r).length:=by simp
 have hne':(x !=255)=true:=by simpa using hne
 generalize (x::r).length=n at*
 go_enter Try.func43,Try.ntmps43
 go_wp2
 go_ret3
 exact Ret3.mk rfl rfl rfl (by omega) rfl rfl
theorem first_short (A:Option Addr) (B n c:Nat) (r:List Int) (w:World) (hn:n=(255::r).length) (hx:Rd w B A ((255::r).map (Value.int .u8))) (hr:r.length<8):
  Calls Try.prog 43 #[.slice A n c] w (No3 w):=by
 subst hn
 obtain ⟨ad,rfl,hb,hc⟩:=hx.at_ (k:=0) (by simp)
 have hc0:w.cell? ad=some (.int .u8 255):=by simpa [adr_zero] using hc
 have hl:0<(255::r).length:=by simp
 have hl2:(255::r).length<9:=by simp;omega
 generalize (255::r).length=n at*
 go_enter Try.func43,Try.ntmps43
 go_wp2
 go_ret3
 exact No3.mk rfl rfl rfl rfl
theorem isB_at {l:List Int} (h:Cd.isB l) {k:Nat} (hk:k<l.length):0≤l.getD k 0∧l.getD k 0<256:=by
 have:=h l[k] (List.getElem_mem hk)
 simpa [List.getD,hk] using this
theorem isB_take {l:List Int} (h:Cd.isB l) (k:Nat):Cd.isB (l.take k):=fun x hx=>h x (List.mem_of_mem_take hx)
theorem num_bd {r:List Int} (hB:Cd.isB r) (k:Nat) (hk:k<8):0≤Cd.numOf ((r.take 8).take k)∧Cd.numOf ((r.take 8).take k)<72057594037927936:=by
 have h:=Cd.numOf_bd (isB_take (isB_take hB 8) k)
 refine ⟨h.1,Int.lt_of_lt_of_le h.2 ?_⟩
 have hl:((r.take 8).take k).length≤7:=by rw [List.length_take];omega
 generalize ((r.take 8).take k).length=m at hl
 rcases (by omega:m=0∨m=1∨m=2∨m=3∨m=4∨m=5∨m=6∨m=7) with rfl |rfl |rfl |rfl |rfl |rfl |rfl |rfl<;>decide
theorem num_bd8 {r:List Int} (hB:Cd.isB r) (hr:8≤r.length):0≤Cd.numOf (r.take 8)∧Cd.numOf (r.take 8)<18446744073709551616:=by
 have h:=Cd.numOf_bd (isB_take hB 8)
 rw [show (r.take 8).length=8 by simp;omega] at h
 exact h
theorem or_add {a x:Int} (h0:0≤a) (h1:a<72057594037927936) (h2:0≤x) (h3:x<256):bits .or .u64 (a*256) x=a*256+x:=by
 obtain ⟨a,rfl⟩: ∃ b:Nat,a=b:=⟨a.toNat,by omega⟩
 obtain ⟨x,rfl⟩: ∃ b:Nat,x=b:=⟨x.toNat,by omega⟩
 rw [show ((a:Int)*256)=((a*256:Nat):Int) by simp,bits_or_u64_nat _ _ (by omega) (by omega)]
 have:=Nat.shiftLeft_add_eq_or_of_lt (a:=a) (b:=x) (i:=8) (by omega)
 rw [Nat.shiftLeft_eq] at this
 rw [←this]
 simp
theorem num_or {r:List Int} (hB:Cd.isB r) (k:Nat) (hk:k<8) (hr:8≤r.length):
  bits .or .u64 (Cd.numOf ((r.take 8).take k)*256) (r.getD k 0)=Cd.numOf ((r.take 8).take (k+1)):=by
 have hs:(r.take 8).take (k+1)=(r.take 8).take k++[r.getD k 0]:=by
  rw [take_snoc (r.take 8) k (by rw [List.length_take];omega)]
  congr 2
  simp [List.getD,List.getElem?_take,hk]
 rw [hs,Cd.numOf_snoc]
 exact or_add (num_bd hB k hk).1 (num_bd hB k hk).2 (isB_at hB (k:=k) (by omega)).1 (isB_at hB (k:=k) (by omega)).2
theorem toI_conv {u:Int} (h0:0≤u) (h1:u<18446744073709551616):wrap64 u=Cd.toI u:=by
 unfold wrap64 Cd.toI;split<;>omega
theorem int_eq {k:IntKind} {a b:Int} (h:a=b):Value.int k a=Value.int k b:=by rw [h]
theorem first_wide (A:Option Addr) (B n c:Nat) (r:List Int) (w:World) (hn:n=(255::r).length) (hc:n≤c) (hx:Rd w B A ((255::r).map (Value.int .u8))) (hr:8≤r.length) (hB:Cd.isB r):
  Calls Try.prog 43 #[.slice A n c] w (Ret3 (Cd.toI (Cd.numOf (r.take 8))) 9 (!Cd.nrB (Cd.toI (Cd.numOf (r.take 8)))) w):=by
 subst hn
 obtain ⟨ad,rfl,hb,hc⟩:=hx.at_ (k:=0) (by simp)
 have hc0:w.cell? ad=some (.int .u8 255):=by simpa [adr_zero] using hc
 have hcs: ∀ k,k<8→w.cell? ((ad.add 1).add k)=some (.int .u8 (r.getD k 0)):=by
  intro k hk
  rw [adr_add]
  obtain ⟨ad',e,_,h⟩:=hx.at_ (k:=1+k) (by simp;omega)
  injection e with e
  subst e
  rw [h]
  simp [Nat.add_comm 1 k]
 have hl:0<(255::r).length:=by simp
 have hl2:9≤(255::r).length:=by simp;omega
 have HCS:=Lib.hid hcs
 clear hcs
 have HX:=Lib.hid hx
 clear hx
 generalize (255::r).length=n at*
 go_enter Try.func43,Try.ntmps43
 go_wp2
 go_loop [5,23] (fun u i=> ∃ k:Nat,k≤8∧i= .int .i64 k∧u= .int .u64 (Cd.numOf ((r.take 8).take k))) (fun _ i=>8-(intOf i).toNat)
 case atStart=>exact ⟨0,by omega,rfl,rfl⟩
 case round=>
  obtain ⟨k,hk,rfl,rfl⟩:=hrel
  by_cases hlt:k<8
  ·have hck:w.cell? ⟨ad.block,ad.off+1+k,none⟩=some (.int .u8 (r.getD k 0)):=by
    have:=HCS.out k hlt
    rwa [show (ad.add 1).add k=⟨ad.block,ad.off+1+k,none⟩ by rw [adr_add];unfold Addr.add;rw [if_neg (by omega)];simp [Nat.add_assoc]] at this
   obtain ⟨b1,b2⟩:=num_bd hB k hlt
   obtain ⟨x1,x2⟩:=isB_at hB (k:=k) (by omega)
   have hor:=num_or hB k hlt hr
   generalize r.getD k 0=x at hck x1 x2 hor
   have HOR:=Lib.hid hor
   clear hor
   go_wp2
   go_round
   case rel=>exact ⟨k+1,by omega,by go_num,int_eq HOR.out⟩
   case measure=>simp [intOf];omega
  ·have:k=8:=by omega
   subst this
   obtain ⟨b1,b2⟩:=num_bd8 hB hr
   have hI:=toI_conv b1 b2
   rw [List.take_of_length_le (l:=r.take 8) (by simp;omega)]
   have HI:=Lib.hid hI
   clear hI
   go_wp2_with (go_at_call 63;refine (narrow_any _ _).mono ?_;rintro e w' ⟨rfl,rfl⟩)
   go_ret3
   have hI:=HI.out
   exact Ret3.mk rfl rfl rfl hI rfl (by rw [hI])
def GetPost (b:List Int) (w:World) (e:Ending) (w':World):Prop:=
 Below w.heap.size w w'∧match Cd.getL b with
  |some l=> ∃ v,e= .returned (.tuple #[v, .bool true])∧w'.ownsRow w.heap.size 3 1 v l.length (l.map (Value.int .i64))
  |none=>e= .returned (.tuple #[.slice none 0 0, .bool false])
theorem GetPost.yes {b l:List Int} {w w':World} {v X:Value} {n:Nat} (h:Cd.getL b=some l) (hX:X= .bool true) (hown:w'.ownsRow w.heap.size 3 1 v n (l.map (Value.int .i64))) (hb:Below w.heap.size w w'):GetPost b w (.returned (.tuple #[v,X])) w':=by
 subst hX
 refine ⟨hb, ?_⟩
 rw [h]
 have:=own_len hown
 rw [List.length_map] at this
 exact ⟨v,rfl,by rw [this];exact hown⟩
theorem GetPost.no {b:List Int} {w w':World} {X Y:Value} (h:Cd.getL b=none) (hX:X= .slice none 0 0) (hY:Y= .bool false) (hb:Below w.heap.size w w'):GetPost b w (.returned (.tuple #[X,Y])) w':=by
 subst hX hY
 refine ⟨hb, ?_⟩
 rw [h]
def FstPost (b:List Int) (w:World) (e:Ending) (w':World):Prop:=
 w=w'∧match Cd.fst1 b with
  |some (m,k)=>e= .returned (.tuple #[.int .i64 m, .int .i64 k, .bool true])
  |none=> ∃ a c:Int,e= .returned (.tuple #[.int .i64 a, .int .i64 c, .bool false])
theorem first_any (A:Option Addr) (B n c:Nat) (b:List Int) (w:World) (hn:n=b.length) (hc:n≤c) (hx:Rd w B A (b.map (Value.int .u8))) (hB:Cd.isB b) (hb:b≠[]):
  Calls Try.prog 43 #[.slice A n c] w (FstPost b w):=by
 cases b with
 |nil=>exact absurd rfl hb
 |cons x r=>
  have h0:=hB x (by simp)
  by_cases hne:x=255
  ·subst hne
   by_cases hr:r.length<8
   ·refine (first_short A B n c r w hn hx hr).mono ?_
    rintro e w' ⟨a,b,rfl,rfl⟩
    refine ⟨rfl, ?_⟩
    simp only [Cd.fst1,if_true,hr]
    exact ⟨a,b,rfl⟩
   ·refine (first_wide A B n c r w hn hc hx (by omega) (fun y hy=>hB y (by simp [hy]))).mono ?_
    rintro e w' ⟨rfl,rfl⟩
    refine ⟨rfl, ?_⟩
    simp only [Cd.fst1,if_true,hr,if_false]
    cases hq:Cd.nrB (Cd.toI (Cd.numOf (r.take 8)))
    ·simp
    ·simp only [if_true,Bool.not_true];exact ⟨_,_,rfl⟩
  ·refine (first_one A B n c x r w hn hx h0.1 h0.2 hne).mono ?_
   rintro e w' ⟨rfl,rfl⟩
   refine ⟨rfl, ?_⟩
   simp only [Cd.fst1,if_neg hne]
   rfl
end
end Go.Proofs.Ytfjapapiappacaa
namespace Go.Proofs.Ytfjapapiappacaa
section
open Go.RowKit
theorem fst_some {b:List Int} {w:World} {e:Ending} {w':World} {m:Int} {k:Nat} (h:Cd.fst1 b=some (m,k)) (hp:FstPost b w e w'):e= .returned (.tuple #[.int .i64 m, .int .i64 k, .bool true])∧w=w':=by
 unfold FstPost at hp;rw [h] at hp;exact ⟨hp.2,hp.1⟩
theorem fst_none {b:List Int} {w:World} {e:Ending} {w':World} (h:Cd.fst1 b=none) (hp:FstPost b w e w'): ∃ a c:Int,e= .returned (.tuple #[.int .i64 a, .int .i64 c, .bool false])∧w=w':=by
 unfold FstPost at hp;rw [h] at hp;obtain ⟨rfl,a,c,he⟩:=hp;exact ⟨a,c,he,rfl⟩
theorem isB_drop {l:List Int} (h:Cd.isB l) (k:Nat):Cd.isB (l.drop k):=fun x hx=>h x (List.mem_of_mem_drop hx)
set_option maxHeartbeats 2000000 in
theorem Get_any (A:Option Addr) (n c:Nat) (b:List Int) (w:World) (hn:n=b.length) (hc:n≤c) (hc2:c≤maxLen) (hx:Rd w w.heap.size A (b.map (Value.int .u8))) (hB:Cd.isB b) (hs:n≤1000000):
  Calls Try.prog 24 #[.slice A n c] w (GetPost b w):=by
 subst hn
 obtain ⟨i0,hi0,hz0,hs0,hb0⟩:=info_parts infoI
 unfold maxLen at hc2
 go_enter Try.func24,Try.ntmps24
 go_wp2
 go_loopw [0,4] (fun u v wr=> ∃ (A:Option Addr) (m c:Nat) (rest acc:List Int),u= .slice A m c∧m=rest.length∧m≤c∧c≤9223372036854775807∧Rd w w.heap.size A (rest.map (Value.int .u8))∧Cd.isB rest∧m≤b.length∧
   wr.ownsRow w.heap.size 3 1 v acc.length (acc.map (Value.int .i64))∧acc.length+m≤b.length∧Below w.heap.size w wr∧Cd.getL b=(Cd.getL rest).map (acc++ ·)) (fun u _ _=>(match u with | .slice _ m _=>m |_=>0))
 case atStart=>exact ⟨A,b.length,c,b,[],rfl,rfl,hc,by omega,hx,hB,by omega,by simpa using World.ownsRow_nil _ _ _ _,by simp,Below.refl _ _,by simp⟩
 case round=>
  obtain ⟨A2,m,c2,rest,acc,rfl,hm,hmc,hc3,hx2,hB2,hmb,hown,hacc,hbw,hg⟩:=hrel
  have HG:=Lib.hid hg
  clear hg
  have hbs:=hbw.size
  cases hr:rest with
  |nil=>
   subst hr
   subst hm
   go_wp2
   go_ret2
   refine GetPost.yes (l:=acc) ?_ rfl hown hbw
   have:=HG.out
   rw [this];simp [Cd.getL_nil]
  |cons x r=>
   have hne:rest≠[]:=by rw [hr];simp
   have hpos:0<m:=by rw [hm,hr];simp
   clear hr
   have HM:=Lib.hid hm
   clear hm
   have hxr:=hx2.below hbw (Nat.le_refl _)
   cases hf:Cd.fst1 rest with
   |none=>
    have HF:=Lib.hid hf
    clear hf
    go_wp2_with (go_at_call 43;refine (first_any A2 _ m c2 rest _ HM.out hmc hxr hB2 hne).mono ?_;intro e w' hp;obtain ⟨a1,c1,rfl,rfl⟩:=fst_none HF.out hp;clear hp)
    go_ret2
    refine GetPost.no ?_ rfl rfl hbw
    have:=HG.out
    rw [this,Cd.getL_none hne HF.out];rfl
   |some p=>
    obtain ⟨q,k⟩:=p
    have hk:=Cd.fst1_size hf
    have HF:=Lib.hid hf
    clear hf
    obtain ⟨hk1,hk2,hk3⟩:=hk
    have HK3:=Lib.hid hk3
    clear hk3
    have hk4:k≤m:=by rw [HM.out];exact hk2
    have hacc2:acc.length≤1000000:=by omega
    go_wp2_with (first
     | (go_at_call 43;refine (first_any A2 _ m c2 rest _ HM.out hmc hxr hB2 hne).mono ?_;intro e w' hp;obtain ⟨rfl,rfl⟩:=fst_some HF.out hp;clear hp)
     | (at_builtin;refine wp_app1 _ rfl (.tmp 19) (.tmp 21) _ rfl w.heap.size 3 i0 _ 8 Try.underlying22 hi0 hz0 hs0 hb0 rfl _ _ _ rfl hown _ rfl rfl (by omega) (by omega) hbs ?_;intro v3 w3 hown3 hb3))
    go_round
    case rel=>
     have hm:=HM.out
     refine ⟨_,m-k,c2-k,rest.drop k,acc++[q],rfl,by rw [List.length_drop];omega,by omega,by omega, ?_,isB_drop hB2 k,by omega, ?_,by simp;omega,hbw.trans hb3,Cd.getL_acc HG.out HF.out⟩
     ·have:=hx2.drop (k:=k) (n:=m) (cap:=c2) (by rw [List.length_map];exact hm) hk4 hmc
      rwa [←List.map_drop] at this
     ·simpa using hown3
    case measure=>simp;omega
end
end Go.Proofs.Ytfjapapiappacaa
namespace Go.Proofs.Ytfjapapiappacaa
section
open Go.RowKit
theorem byteAt_p (m:Int) (k:Nat) (h0:0≤m) (h1:m<9223372036854775808):m/2^(8*(7-k))%256=Cd.byteAt m k:=by
 rw [←byteAt_w,IntKind.wrap_u64,Int.emod_eq_of_lt h0 (by omega)]
set_option maxHeartbeats 2000000 in
theorem rPut_any (A:Option Addr) (n c:Nat) (l:List Int) (w:World) (hn:n=l.length) (hx:Rd w w.heap.size A (l.map (Value.int .i64))) (hl:Cd.isI l) (hs:n≤1000000):
  Calls Try.prog 9 #[.slice A n c] w (RetOwn w.heap.size 5 ((Cd.putL l).map (Value.int .u8)) w):=by
 subst hn
 obtain ⟨i0,hi0,hz0,hs0,hb0⟩:=info_parts infoB
 go_enter Try.func9,Try.ntmps9
 go_wp2
 go_loopw [3,4] (fun v i wr=> ∃ k:Nat,k≤l.length∧i= .int .i64 k∧wr.ownsRow w.heap.size 5 1 v ((Cd.putL (l.take k)).map (Value.int .u8)).length ((Cd.putL (l.take k)).map (Value.int .u8))∧Below w.heap.size w wr) (fun _ i _=>l.length-(intOf i).toNat)
 case atStart=>exact ⟨0,by omega,rfl,by simpa [Cd.putL] using World.ownsRow_nil _ _ _ _,Below.refl _ _⟩
 case round=>
  obtain ⟨k,hk,rfl,hown2,hb2⟩:=hrel
  have hs2:=hb2.size
  by_cases hlt:k<l.length
  ·have hx2:=hx.below hb2 (by omega)
   obtain ⟨ad,rfl,hb,hc⟩:=hx2.at_ (k:=k) hlt
   obtain ⟨z1,z2⟩:=isI_at hl hlt
   have hlen:((Cd.putL (l.take k)).map (Value.int .u8)).length≤9000000:=by
    rw [List.length_map]
    have:=Cd.putL_len_le (l.take k)
    rw [List.length_take] at this
    omega
   have hst:=take_snoc l k hlt
   generalize l.getD k 0=m at hc z1 z2 hst
   have hst2:(Cd.putL (l.take (k+1))).map (Value.int .u8)=(Cd.putL (l.take k)).map (Value.int .u8)++(Cd.putN m).map (Value.int .u8):=by rw [hst,Cd.putL_snoc,List.map_append]
   have HST:=Lib.hid hst2
   clear hst hst2
   generalize hX:(Cd.putL (l.take k)).map (Value.int .u8)=X at hown2 hlen HST
   clear hX
   cases hnr:Cd.nrB m
   ·have hp:(Cd.putN m).map (Value.int .u8)=[Value.int .u8 255]++(Cd.eight m).map (Value.int .u8):=by simp [Cd.putN,hnr]
    have HP:=Lib.hid hp
    have hm:=Cd.nrB_not.1 hnr
    clear hp hnr
    by_cases hm1: -1≤m
    all_goals
     first | (have hm2:253<m:=by omega)| (have hm2:m< -1:=by omega)
     clear hm
     obtain ⟨wo,rfl⟩: ∃ wo:World,wo=wr:=⟨_,rfl⟩
     go_wp2_with (at_builtin;refine wp_app1 _ rfl (.tmp 29) (.tmp 30) _ rfl w.heap.size 5 i0 _ 1 Try.underlying33 hi0 hz0 hs0 hb0 rfl _ _ _ rfl hown2 (.int .u8 255) rfl rfl (by omega) (by omega) hs2 ?_;intro v1 w1 hown1 hb1)
     go_loopw [3,6] (fun v i w4=> ∃ j:Nat,j≤8∧i= .int .i64 (7-j)∧w4.ownsRow w.heap.size 5 1 v (X.length+1+j) ((X++[Value.int .u8 255])++((Cd.eight m).take j).map (Value.int .u8))∧Below w.heap.size wo w4) (fun _ i _=>(intOf i+1).toNat)
     case atStart=>exact ⟨0,by omega,rfl,by simpa using hown1,hb1⟩
     case round=>
      obtain ⟨j,hj,rfl,hown5,hb5⟩:=hrel
      have hs5:=hb5.size
      by_cases hjt:j<8
      ·go_wp2_with (at_builtin;refine wp_app1 _ rfl (.tmp 36) (.tmp 44) _ rfl w.heap.size 5 i0 _ 1 Try.underlying33 hi0 hz0 hs0 hb0 rfl _ _ _ rfl hown5 _ rfl rfl (by omega) (by omega) (by omega) ?_;intro v6 w6 hown6 hb6)
       go_round
       case rel=>
        refine ⟨j+1,by omega,by go_num, ?_,hb5.trans hb6⟩
        rw [eight_snoc m j hjt,List.map_append,List.map_cons,List.map_nil, ←List.append_assoc]
        first |rw [byteAt_w] at hown6 |rw [byteAt_p m j (by omega) (by omega)] at hown6
        exact hown6
       case measure=>simp [intOf];omega
      ·have:j=8:=by omega
       subst this
       go_wp2
       go_round
       case rel=>
        refine ⟨k+1,by omega,by go_num, ?_,hb2.trans hb5⟩
        rw [HST.out,HP.out]
        rw [List.take_of_length_le (by rw [Cd.eight_len];omega),List.append_assoc] at hown5
        have:=own_len hown5
        rw [this];exact hown5
       case measure=>simp [intOf];omega
   ·have hm:=Cd.nrB_iff.1 hnr
    obtain ⟨hm1,hm2⟩:=hm
    have hp:(Cd.putN m).map (Value.int .u8)=[Value.int .u8 (m+1)]:=by simp [Cd.putN,hnr]
    have HP:=Lib.hid hp
    clear hp hnr
    go_wp2_with (at_builtin;refine wp_app1 _ rfl (.tmp 23) (.tmp 27) _ rfl w.heap.size 5 i0 _ 1 Try.underlying33 hi0 hz0 hs0 hb0 rfl _ _ _ rfl hown2 (.int .u8 (m+1)) rfl rfl (by omega) (by omega) hs2 ?_;intro v1 w1 hown1 hb1)
    go_round
    case rel=>exact ⟨k+1,by omega,by go_num,by rw [HST.out,HP.out];simpa using hown1,hb2.trans hb1⟩
    case measure=>simp [intOf];omega
  ·go_wp2
   go_ret
   have hk:k=l.length:=by omega
   subst hk
   rw [List.take_of_length_le (by omega)] at hown2
   exact ⟨_,rfl,hown2,hb2⟩
end
end Go.Proofs.Ytfjapapiappacaa
namespace Go.Proofs.Ytfjapapiappacaa.Px
section
open Go.RowKit Go.Proofs.Ytfjapapiappacaa.Rx
section
variable {P:Program}
theorem PureC.ofOwnT {f:FuncId} {args:List AV} {t:TypeId} {k:IntKind} {l:List Int} {n:Nat} {g:Nat→Nat→AV} (hn:n=l.length) (hg: ∀ i,i<n→g i 0= .int k (l.getD i 0))
  (h: ∀ (w:World) (R:Nat→Prop) (vs:Array Value),(∀ g,R g→g<w.heap.size)→args.length=vs.size→(∀ (j:Nat) a v,args[j]? =some a→vs[j]? =some v→RepP w R a v)→Calls P f vs w fun e w'=> ∃ v,e= .returned (.tuple #[v, .bool true])∧w'.ownsRow w.heap.size t 1 v l.length (l.map (Value.int k))∧Below w.heap.size w w'):
  PureC P f args (.tup [.own 0 0 1 0 n, .bool true]) [⟨0,false,t, .rows 1 n g⟩]:=by
 subst hn
 intro w R vs hR hl ha
 refine (h w R vs hR hl ha).mono ?_
 rintro e w' ⟨v,rfl,hown,hb⟩
 have hR': ∀ g,R g→g<w'.heap.size:=fun g hg=>Nat.lt_of_lt_of_le (hR g hg) hb.size
 rcases hown.2 with ⟨rfl,h0⟩|⟨gg,cap,cur,rfl,hge,hh,hnc,hcm,hsz,htk⟩
 ·refine ⟨_,⟨w',R,fun _=>none,fun i=>[(⟨0,false,t, .rows 1 l.length g⟩:Blk)][i]?,fun g=>g<w.heap.size⟩,rfl,rfl,rfl,⟨fun id b hb'=> ?_,fun _ _ _ _ _ _ _ h1 _=>(by cases h1),hR',fun g hg=>Nat.lt_of_lt_of_le hg hb.size⟩,rfl,fun _ h=>h,fun _ h=> .inl h,hb, ?_⟩
  ·cases id with
   |zero=>
    simp only [List.getElem?_cons_zero,Option.some.injEq] at hb'
    subst hb'
    exact .inl ⟨rfl,h0⟩
   |succ i=>simp at hb'
  ·refine .tup rfl fun j a v ha hv=> ?_
   match j,ha,hv with
   |0,rfl,rfl=>exact .own (b:=⟨0,false,t, .rows 1 l.length g⟩) rfl (Nat.le_refl _) rfl fun _=>⟨l.length,g,rfl,by omega, .inl ⟨rfl,rfl,h0,rfl⟩⟩
   |1,rfl,rfl=>exact .pure (.bool _)
 ·have hlt:gg<w'.heap.size:=(Array.getElem?_eq_some_iff.1 hh).1
  refine ⟨_,⟨w',R,fun i=>if i=0 then some (gg,cap) else none,fun i=>[(⟨0,false,t, .rows 1 l.length g⟩:Blk)][i]?,fun g=>g<w.heap.size⟩,rfl,rfl,rfl,⟨fun id b hb'=> ?_,fun i j _ _ _ _ _ h1 h2=> ?_,hR',fun g hg=>Nat.lt_of_lt_of_le hg hb.size⟩,rfl,fun _ h=>h,fun _ h=> .inl h,hb, ?_⟩
  ·cases id with
   |zero=>
    simp only [List.getElem?_cons_zero,Option.some.injEq] at hb'
    subst hb'
    refine .inr ⟨gg,cap,cur,rfl,hh,hsz,hnc,hcm,fun i hi j hj=> ?_,Nat.not_lt.2 hge, ?_⟩
    ·obtain rfl:j=0:=by omega
     have h5:cur.toList[i]? =some (.int k (l.getD i 0)):=by
      have:=congrArg (fun (x:List Value)=>x[i]?) htk
      simp only [List.getElem?_map] at this
      rw [List.getElem?_take,if_pos (by omega)] at this
      rw [this]
      simp [List.getD,hi]
     refine ⟨.int k (l.getD i 0), ?_,rfl, ?_⟩
     ·rw [←Array.getElem?_toList,show i*1+0=i by omega]
      exact h5
     ·rw [hg i hi]
      exact .int _ _
    ·show ¬R gg
     intro hr
     have:=hR gg hr
     omega
   |succ i=>simp at hb'
  ·simp only at h1 h2
   split at h1
   ·split at h2
    ·omega
    ·cases h2
   ·cases h1
  ·refine .tup rfl fun j a v ha hv=> ?_
   match j,ha,hv with
   |0,rfl,rfl=>
    refine .own (b:=⟨0,false,t, .rows 1 l.length g⟩) rfl (Nat.le_refl _) rfl fun _=>⟨l.length,g,rfl,by omega, .inr ⟨gg,cap,rfl, ?_⟩⟩
    simp
   |1,rfl,rfl=>exact .pure (.bool _)
end
def blkB (l:List Int):Blk:=⟨0,false,5, .rows 1 l.length (rowB l)⟩
def bR (l:List Int):AV:= .row 1 l.length (rowB l)
theorem getC (b l:List Int) (hB:Cd.isB b) (hs:b.length≤1000000) (h:Cd.getL b=some l):PureC Try.prog 24 [.row 1 b.length (rowB b)] (.tup [.own 0 0 1 0 l.length, .bool true]) [blkI l]:=
 PureC.ofOwnT (k:= .i64) (l:=l) rfl (fun _ _=>rfl) fun w R vs hR hn ha=>by
  obtain ⟨v,rfl,hv⟩:=one_arg rfl hn ha
  obtain ⟨A,c,rfl,hnc,hcm,hr⟩:=hv.ints hR rfl (fun _ _=>rfl)
  refine (Get_any A _ c b w rfl hnc hcm hr hB hs).mono ?_
  rintro e w' ⟨hb,h2⟩
  rw [h] at h2
  obtain ⟨v,rfl,h3⟩:=h2
  exact ⟨v,rfl,h3,hb⟩
theorem getC_n (b:List Int) (hB:Cd.isB b) (hs:b.length≤1000000) (h:Cd.getL b=none):PureC Try.prog 24 [.row 1 b.length (rowB b)] (.tup [.nils, .bool false]) []:=by
 intro w R vs hR hn ha
 obtain ⟨v,rfl,hv⟩:=one_arg rfl hn ha
 obtain ⟨A,c,rfl,hnc,hcm,hr⟩:=hv.ints hR rfl (fun _ _=>rfl)
 refine (Get_any A _ c b w rfl hnc hcm hr hB hs).mono ?_
 rintro e w' ⟨hb,h2⟩
 rw [h] at h2
 obtain rfl:=h2
 refine ⟨_,⟨w',R,fun _=>none,fun i=>([]:List Blk)[i]?,fun g=>g<w.heap.size⟩,rfl,rfl,rfl,⟨fun id b hb'=> ?_,fun _ _ _ _ _ _ _ h1 _=>(by cases h1),fun g hg=>Nat.lt_of_lt_of_le (hR g hg) hb.size,fun g hg=>Nat.lt_of_lt_of_le hg hb.size⟩,rfl,fun _ h=>h,fun _ h=> .inl h,hb, ?_⟩
 ·simp at hb'
 ·refine .tup rfl fun j a v ha hv=> ?_
  match j,ha,hv with
  |0,rfl,rfl=>exact .pure .nils
  |1,rfl,rfl=>exact .pure (.bool _)
theorem putC {a:AV} {l:List Int} (h:PartOk a l) (hl:l.length≤1000000) (hi:Cd.isI l):PureC Try.prog 42 [a] (.own 0 0 1 0 (Cd.putL l).length) [blkB (Cd.putL l)]:=
 PureC.ofOwn (k:= .u8) (l:=Cd.putL l) rfl (fun _ _=>rfl) fun w R vs hR hn ha=>by
  obtain ⟨v,rfl,hv⟩:=one_arg rfl hn ha
  obtain ⟨A,c,rfl,hr⟩:=h.rep hv hR
  exact Put_any A _ c l w rfl hr hi hl
theorem rputC {a:AV} {l:List Int} (h:PartOk a l) (hl:l.length≤1000000) (hi:Cd.isI l):PureC Try.prog 9 [a] (.own 0 0 1 0 (Cd.putL l).length) [blkB (Cd.putL l)]:=
 PureC.ofOwn (k:= .u8) (l:=Cd.putL l) rfl (fun _ _=>rfl) fun w R vs hR hn ha=>by
  obtain ⟨v,rfl,hv⟩:=one_arg rfl hn ha
  obtain ⟨A,c,rfl,hr⟩:=h.rep hv hR
  exact rPut_any A _ c l w rfl hr hi hl
end
end Go.Proofs.Ytfjapapiappacaa.Px
namespace Go.Proofs.Ytfjapapiappacaa.Px
section
open Go.RowKit Go.Proofs.Ytfjapapiappacaa.Rx
theorem par_n (b:List Int) (h:PureC Try.prog 24 [bR b] (.tup [.nils, .bool false]) []):Vc (vcFn Try.prog false 8 [bR b] [.cl [bR b] (.tup [.nils, .bool false]) [], .b true] [] (.tup [.agg (cfA Cf0), .bool false]) []):=vc_by (cj (rf b.length) (cj (rr b.length 1 fun i j=>AV.int IntKind.u8 (b.getD i 0)) (cj h (cj (rf true) (cj (rf (0:Int)) (cj (rf (0:Int)) (cj (rf (0:Int)) (cj (rf (0:Int)) (cj (rf (0:Nat)) (cj (rf (0:Nat)) (cj (rf (0:Int)) (cj (rf (0:Nat)) (cj (rf (0:Nat)) (cj (rf (0:Int)) (cj (rf false) trivial))))))))))))))) (by kernel_rfl)
theorem zC40 {Z:Prop} (z:Z):(RF (0:Int) (RF (0:Int) (RF (0:Int) (RF (0:Int) (RF (0:Nat) (RF (0:Nat) (RF (0:Int) (RF (0:Nat) (RF (0:Nat) Z))))))))):=⟨rfl,rfl,rfl,rfl,rfl,rfl,rfl,rfl,rfl,z⟩
theorem zC41 (l:List Int) {Z:Prop} (z:Z):(RF false (RF l.length (RR l.length 1 (fun i j=>aI (l.getD i 0)) (RF false Z)))):=⟨rfl,rfl,fun _ _ _ _=>rfl,rfl,z⟩
abbrev qC40 (b:List Int) (l:List Int):Prop:=PureC Try.prog 24 [bR b] (.tup [lR l, .bool true]) []
theorem par_w (b l l1:List Int) (c:Cf) (h:qC40 b l) (hk:KeepC Try.prog 25 [.bptr 0 0] 70 (rdA l false) (.agg (s8A c.s (.own 1 0 1 0 c.s.m.length) (.own 2 0 1 0 c.s.st.length)++[.own 3 0 8 0 c.b.length, .own 4 0 1 0 c.r.length, .int .i64 c.e])) (rdA l1 true) [blkI c.s.m,blkI c.s.st,enB c.b,blkI c.r]):Vc (vcFn Try.prog false 8 [bR b] [.cl [bR b] (.tup [lR l, .bool true]) [], .b false, .ck [.bptr 0 0] 1 70 (rdA l false) (.agg (s8A c.s (.own 1 0 1 0 c.s.m.length) (.own 2 0 1 0 c.s.st.length)++[.own 3 0 8 0 c.b.length, .own 4 0 1 0 c.r.length, .int .i64 c.e])) (rdA l1 true) [blkI c.s.m,blkI c.s.st,enB c.b,blkI c.r]] [] (.tup [.agg (cfA Cf0), .bool false]) []):=vc_by (cj (rf b.length) (cj (rr b.length 1 fun i j=>AV.int IntKind.u8 (b.getD i 0)) (cj h (zC41 l (cj hk (zC40 (cj (rf (0:Int)) (cj (rf false) trivial)))))))) (by kernel_rfl)
abbrev qC41 (l:List Int) (l1:List Int) (c:Cf):Prop:=KeepC Try.prog 25 [.bptr 0 0] 70 (rdA l false) (.agg (s8A c.s (.own 1 0 1 0 c.s.m.length) (.own 2 0 1 0 c.s.st.length)++[.own 3 0 8 0 c.b.length, .own 4 0 1 0 c.r.length, .int .i64 c.e])) (rdA l1 false) [blkI c.s.m,blkI c.s.st,enB c.b,blkI c.r]
theorem par_l (b l l1:List Int) (c:Cf) (h1:l1.length≠0) (h:qC40 b l) (hk:qC41 l l1 c):Vc (vcFn Try.prog false 8 [bR b] [.cl [bR b] (.tup [lR l, .bool true]) [], .b false, .ck [.bptr 0 0] 1 70 (rdA l false) (.agg (s8A c.s (.own 1 0 1 0 c.s.m.length) (.own 2 0 1 0 c.s.st.length)++[.own 3 0 8 0 c.b.length, .own 4 0 1 0 c.r.length, .int .i64 c.e])) (rdA l1 false) [blkI c.s.m,blkI c.s.st,enB c.b,blkI c.r], .bd true] [] (.tup [.agg (cfA Cf0), .bool false]) []):=vc_by (cj (rf b.length) (cj (rr b.length 1 fun i j=>AV.int IntKind.u8 (b.getD i 0)) (cj h (zC41 l (cj hk (cj (dt ((l1.length:Int)>0)) (zC40 (cj (rf (0:Int)) (cj (rf false) trivial))))))))) (by kernel_rfl)
theorem par_y (b l l1:List Int) (c:Cf) (h1:l1.length=0) (h:qC40 b l) (hk:qC41 l l1 c):Vc (vcFn Try.prog false 8 [bR b] [.cl [bR b] (.tup [lR l, .bool true]) [], .b false, .ck [.bptr 0 0] 1 70 (rdA l false) (.agg (s8A c.s (.own 1 0 1 0 c.s.m.length) (.own 2 0 1 0 c.s.st.length)++[.own 3 0 8 0 c.b.length, .own 4 0 1 0 c.r.length, .int .i64 c.e])) (rdA l1 false) [blkI c.s.m,blkI c.s.st,enB c.b,blkI c.r], .bd false] [(0,2),(1,3),(2,4),(3,5)] (.tup [.agg (s8A c.s (.own 0 0 1 0 c.s.m.length) (.own 1 0 1 0 c.s.st.length)++[.own 2 0 8 0 c.b.length, .own 3 0 1 0 c.r.length, .int .i64 c.e]), .bool true]) [blkI c.s.m,blkI c.s.st,enB c.b,blkI c.r]):=vc_by (cj (rf b.length) (cj (rr b.length 1 fun i j=>AV.int IntKind.u8 (b.getD i 0)) (cj h (zC41 l (cj hk (cj (df ((l1.length:Int)>0)) (cj (rf c.s.m.length) (cj (rr c.s.m.length 1 fun i j=>aI (List.getD c.s.m i (0:Int))) (cj (rf c.s.st.length) (cj (rr c.s.st.length 1 fun i j=>aI (List.getD c.s.st i (0:Int))) (cj (rf c.b.length) (cj (rr c.b.length 8 fun i j=>rowL enC c.b i j) (cj (rf c.r.length) (cj (rr c.r.length 1 fun i j=>aI (c.r.getD i 0)) (cj (rf c.s.r0) (cj (rf c.s.r1) (cj (rf c.s.r2) (cj (rf c.s.r3) (cj (rf (0:Nat)) (cj (rf c.s.m.length) (cj (rf (0:Nat)) (cj (rf c.s.st.length) (cj (rf c.s.pc) (cj (rf (0:Nat)) (cj (rf c.b.length) (cj (rf (0:Nat)) (cj (rf c.r.length) (cj (rf c.e) (cj (rf true) trivial))))))))))))))))))))))))))))) (by kernel_rfl)
def parL (l:List Int):Option Cf:=if (Rs.mk l false).cs.w=false∧(Rs.mk l false).cs.l.length=0 then some (Rs.mk l false).cf else none
def parB (b:List Int):Option Cf:=(Cd.getL b).bind parL
theorem parO (b:List Int) (c:Cf) (hB:Cd.isB b) (hs:b.length<1000000) (h:parB b=some c):PureC Try.prog 8 [bR b] (.tup [.agg (s8A c.s (.own 0 0 1 0 c.s.m.length) (.own 1 0 1 0 c.s.st.length)++[.own 2 0 8 0 c.b.length, .own 3 0 1 0 c.r.length, .int .i64 c.e]), .bool true]) [blkI c.s.m,blkI c.s.st,enB c.b,blkI c.r]:=by
 unfold parB at h
 cases hg:Cd.getL b with
 |none=>rw [hg] at h;cases h
 |some l=>
  rw [hg] at h
  have hl:=Cd.getL_len hg
  have hG:=(getC b l hB (Nat.le_of_lt hs) hg).frozenT
  have hk:=cnfC ⟨l,false⟩ (show l.length<1000000 by omega)
  have h:parL l=some c:=h
  unfold parL at h
  split at h
  ·rename_i hc
   obtain rfl:=Option.some.inj h
   obtain ⟨hc1,hc2⟩:=hc
   rw [hc1] at hk
   exact PureC.vc (par_y b l _ _ hc2 hG hk)
  ·cases h
theorem parN (b:List Int) (hB:Cd.isB b) (hs:b.length<1000000) (h:parB b=none):PureC Try.prog 8 [bR b] (.tup [.agg (cfA Cf0), .bool false]) []:=by
 unfold parB at h
 cases hg:Cd.getL b with
 |none=>exact PureC.vc (par_n b (getC_n b hB (Nat.le_of_lt hs) hg))
 |some l=>
  rw [hg] at h
  have hl:=Cd.getL_len hg
  have hG:=(getC b l hB (Nat.le_of_lt hs) hg).frozenT
  have hk:=cnfC ⟨l,false⟩ (show l.length<1000000 by omega)
  have h:parL l=none:=h
  unfold parL at h
  split at h
  ·cases h
  ·rename_i hc
   cases hw:(Rs.mk l false).cs.w with
   |true=>
    rw [hw] at hk
    exact PureC.vc (par_w b l _ _ hG hk)
   |false=>
    rw [hw] at hk
    exact PureC.vc (par_l b l _ _ (fun e=>hc ⟨hw,e⟩) hG hk)
theorem parF (b:List Int) (c:Cf) (hB:Cd.isB b) (hs:b.length<1000000) (h:parB b=some c):PureC Try.prog 8 [bR b] (.tup [.agg (cfA c), .bool true]) []:=(parO b c hB hs h).frozenT
end
end Go.Proofs.Ytfjapapiappacaa.Px
namespace Go.Proofs.Ytfjapapiappacaa.Px
section
open Go.RowKit Go.Proofs.Ytfjapapiappacaa.Rx
def xcS (A B:AV) (k:Nat):Sm:=⟨[(0,A),(1,B),(5, .int .i64 k),(4, .bool false)],[],0⟩
def xfS:Sm:=⟨[(4, .bool false)],[],0⟩
theorem gd_ext {α:Type} {d:α} {a b:List α} (hl:a.length=b.length) (h: ∀ i,i<a.length→a.getD i d=b.getD i d):a=b:=by
 apply List.ext_getElem hl
 intro i h1 h2
 have:=h i h1
 simpa [List.getD,h1,h2] using this
theorem zN00 (a:List Int) (b:List Int) {Z:Prop} (z:Z):(RF a.length (RR a.length 1 (fun i j=>aI (a.getD i 0)) (RF b.length (RR b.length 1 (fun i j=>aI (b.getD i 0)) Z)))):=⟨rfl,fun _ _ _ _=>rfl,rfl,fun _ _ _ _=>rfl,z⟩
theorem nsi_y (a b:List Int) (k:Nat) (hl:a.length=b.length) (hk:k<a.length) (hb:a.length<1000000000) (he:(a.getD k 0)=(b.getD k 0)):Vc (vcC Try.prog false (ntOf Try.prog 11) (lpC Try.prog 11 0) (xcS (lR a) (lR b) k) [.bd true, .bd false] .nrm [] (xcS (lR a) (lR b) (k+1))):=vc_by (cj (dt ((k:Int)<(a.length:Int))) (cj (bi (k:Int) (a.length:Int)) (cj (bi (k:Int) (b.length:Int)) (cj (show (a.getD k 0 !=b.getD k 0)=false from by rw [he];simp) (cj (i6 ((k:Int)+1)) (zN00 a b (cj (rf ((k:Int)+1)) (cj (rf false) trivial)))))))) (by kernel_rfl)
theorem nsi_n (a b:List Int) (k:Nat) (hl:a.length=b.length) (hk:k<a.length) (hb:a.length<1000000000) (he:(a.getD k 0)≠(b.getD k 0)):Vc (vcC Try.prog false (ntOf Try.prog 11) (lpC Try.prog 11 0) (xcS (lR a) (lR b) k) [.bd true, .bd true] .ret [] xfS):=vc_by (cj (dt ((k:Int)<(a.length:Int))) (cj (bi (k:Int) (a.length:Int)) (cj (bi (k:Int) (b.length:Int)) (cj (bne_iff_ne.2 he) (cj (rf false) trivial))))) (by kernel_rfl)
theorem nsi_e (a b:List Int) (k:Nat) (hl:a.length=b.length) (hk: ¬k<a.length) (hk2:k<1000000000):Vc (vcC Try.prog false (ntOf Try.prog 11) (lpC Try.prog 11 0) (xcS (lR a) (lR b) k) [.bd false] (.ext 0) [] (xcS (lR a) (lR b) k)):=vc_by (cj (df ((k:Int)<(a.length:Int))) (zN00 a b (cj (rf (k:Int)) (cj (rf false) trivial)))) (by kernel_rfl)
theorem nsi_all (a b:List Int) (hl:a.length=b.length) (hb:a.length<1000000000) (h: ∀ i,i<a.length→a.getD i 0=b.getD i 0): ∀ j k,k+j=a.length→OkL Try.prog (ntOf Try.prog 11) (lpC Try.prog 11 0) (xcS (lR a) (lR b) k).st (.ext 0) (xcS (lR a) (lR b) a.length).st
 |0,k,hk=>by
  obtain rfl:k=a.length:=by omega
  exact OkL.exit (Ok.vc (nsi_e a b _ hl (Nat.lt_irrefl _) hb)) (by simp)
 |j+1,k,hk=>OkL.step (Ok.vc (nsi_y a b k hl (by omega) hb (h k (by omega)))) (nsi_all a b hl hb h j (k+1) (by omega))
theorem nsi_dif (a b:List Int) (hl:a.length=b.length) (hb:a.length<1000000000): ∀ j k,k+j=a.length→(∃ i,k≤i∧i<a.length∧a.getD i 0≠b.getD i 0)→OkL Try.prog (ntOf Try.prog 11) (lpC Try.prog 11 0) (xcS (lR a) (lR b) k).st .ret (xfS).st
 |0,k,hk,h=>by obtain ⟨i,h1,h2,_⟩:=h;omega
 |j+1,k,hk,h=>by
  by_cases he:(a.getD k 0)=(b.getD k 0)
  ·obtain ⟨i,h1,h2,h3⟩:=h
   have:i≠k:=fun e=>by subst e;exact h3 he
   exact OkL.step (Ok.vc (nsi_y a b k hl (by omega) hb he)) (nsi_dif a b hl hb j (k+1) (by omega) ⟨i,by omega,h2,h3⟩)
  ·exact OkL.exit (Ok.vc (nsi_n a b k hl (by omega) hb he)) (by simp)
theorem nsi_l (a b:List Int) (hl: ¬a.length=b.length):Vc (vcFn Try.prog false 11 [lR a,lR b] [.bd true] [] (.bool false) []):=vc_by (cj (show ((a.length:Int) !=(b.length:Int))=true from (bne_iff_ne.2 (by omega))) (cj (rf false) trivial)) (by kernel_rfl)
theorem zN01 (a:List Int) (b:List Int) {Z:Prop} (z:Z):(RF a.length (RR a.length 1 (fun i j=>aI (a.getD i 0)) (RF b.length (RR b.length 1 (fun i j=>aI (b.getD i 0)) (RF (0:Int) (RF false Z)))))):=⟨rfl,fun _ _ _ _=>rfl,rfl,fun _ _ _ _=>rfl,rfl,rfl,z⟩
theorem nsi_t (a b:List Int) (n:Nat) (hl:a.length=b.length) (h:Ok Try.prog (ntOf Try.prog 11) (.loop (lpC Try.prog 11 0)) (xcS (lR a) (lR b) 0).st (.ext 0) (xcS (lR a) (lR b) n).st):Vc (vcFn Try.prog false 11 [lR a,lR b] [.bd false, .lp [] (xcS (lR a) (lR b) 0) (.ext 0) (xcS (lR a) (lR b) n)] [] (.bool true) []):=vc_by (cj (show ((a.length:Int) !=(b.length:Int))=false from (bne_eq_false_iff_eq.2 (by omega))) (zN01 a b (cj h (cj (rf true) trivial)))) (by kernel_rfl)
theorem nsi_f (a b:List Int) (hl:a.length=b.length) (h:Ok Try.prog (ntOf Try.prog 11) (.loop (lpC Try.prog 11 0)) (xcS (lR a) (lR b) 0).st .ret (xfS).st):Vc (vcFn Try.prog false 11 [lR a,lR b] [.bd false, .lp [] (xcS (lR a) (lR b) 0) .ret xfS] [] (.bool false) []):=vc_by (cj (show ((a.length:Int) !=(b.length:Int))=false from (bne_eq_false_iff_eq.2 (by omega))) (zN01 a b (cj h (cj (rf false) trivial)))) (by kernel_rfl)
theorem nsiC (a b:List Int) (hb:a.length<1000000000):PureC Try.prog 11 [lR a,lR b] (.bool (decide (a=b))) []:=by
 by_cases hl:a.length=b.length
 ·by_cases h: ∀ i,i<a.length→a.getD i 0=b.getD i 0
  ·rw [decide_eq_true (gd_ext hl h)]
   exact PureC.vc (nsi_t a b _ hl (nsi_all a b hl hb h a.length 0 (by omega)).ok)
  ·rw [decide_eq_false (fun e=>h fun i _=>by rw [e])]
   refine PureC.vc (nsi_f a b hl (nsi_dif a b hl hb a.length 0 (by omega) ?_).ok)
   apply Classical.byContradiction
   intro hn
   exact h fun i hi=>Classical.byContradiction fun he=>hn ⟨i,Nat.zero_le _,hi,he⟩
 ·rw [decide_eq_false (fun e=>hl (by rw [e]))]
  exact PureC.vc (nsi_l a b hl)
end
end Go.Proofs.Ytfjapapiappacaa.Px
namespace Go.Proofs.Ytfjapapiappacaa.Px
section
open Go.RowKit Go.Proofs.Ytfjapapiappacaa.Rx
structure EnOk (p:Pg) (e:En):Prop where
 pc:0≤e.pc∧e.pc≤p.is.length
 val:0≤e.val∧e.val<65536
 frm: -1≤e.frm∧e.frm≤1000000
 nxt: -1≤e.nxt∧e.nxt≤p.is.length
 adr:0≤e.adr∧e.adr<65536
def rOk (p:Pg) (st:List Int) (b:List En) (k:Nat):Prop:= ∃ L,reG p b 0 k st=some L∧L.length≠0
def lOk (p:Pg) (st:List Int) (b:List En) (k:Nat):Prop:= ∃ L,reG p b 0 k st=some L∧L.length<4
structure EtOk (p:Pg) (m:Nat) (st:List Int) (b:List En) (k:Nat) (e:En):Prop where
 sto:(atI p e.pc).kind=3→e.kn=true→e.ft=false→e.adr<m
 ret:(atI p e.pc).kind=9→e.dn=true→e.ft=false→rOk p st b k
 cal:(atI p e.pc).kind=8→e.ft=false→lOk p st b k
structure Inv (p:Pg) (c:Cf):Prop where
 reg:okR c.s
 mem: ∀ x∈c.s.m,0≤x∧x<65536
 ml:c.s.m.length=sumN p.ms
 pc: -1≤c.s.pc∧c.s.pc≤p.is.length
 st:c.s.st.length≤4
 stk: ∀ x∈c.s.st,0≤x∧x≤p.is.length
 bl:(c.b.length:Int)≤max p.win 0
 be: ∀ e∈c.b,EnOk p e
 rl:c.r.length≤2
 rb: ∀ x∈c.r,0≤x∧x≤p.is.length
 et: ∀ k,k<c.b.length→EtOk p c.s.m.length c.s.st c.b k (c.b.getD k default)
theorem gdE_mem {l:List En} {k:Nat} (h:k<l.length):l.getD k default∈l:=by simp [List.getD,h]
theorem gdE_out {l:List En} {k:Nat} (h: ¬k<l.length):l.getD k default=En0:=by
 simp [List.getD,List.getElem?_eq_none (Nat.not_lt.1 h)];rfl
theorem gdI_mem {l:List Int} {k:Nat} (h:k<l.length):l.getD k 0∈l:=by simp [List.getD,h]
theorem cl0_nat {k n:Nat} (h:k≤n):cl0 (k:Int) n=k:=by unfold cl0;omega
theorem reV_nat (p:Pg) (st:List Int) (l:List En) {k:Nat} (h:k≤l.length):reV p st l k=reG p l 0 k st:=by unfold reV;rw [cl0_nat h]
theorem reG_congr (p:Pg) (l l':List En): ∀ j k k' st,(∀ i,i<j→(l.getD (k+i) default).pc=(l'.getD (k'+i) default).pc)→reG p l k j st=reG p l' k' j st
 |0,_,_,_,_=>rfl
 |j+1,k,k',st,h=>by
  have h0:=h 0 (by omega)
  rw [Nat.add_zero,Nat.add_zero] at h0
  have e:enI p l k=enI p l' k':=by unfold enI;rw [h0]
  have hr: ∀ i,i<j→(l.getD (k+1+i) default).pc=(l'.getD (k'+1+i) default).pc:=fun i hi=>by
   have:=h (i+1) (by omega)
   rw [show k+1+i=k+(i+1) by omega,show k'+1+i=k'+(i+1) by omega];exact this
  have hR:=fun s=>reG_congr p l l' j (k+1) (k'+1) s hr
  unfold reG
  rw [e,h0,hR,hR,hR]
theorem reG_mem (p:Pg) (l:List En) (P:Int→Prop): ∀ j k st L,(∀ x∈st,P x)→(∀ i,k≤i→i<k+j→(enI p l i).kind=8→P ((l.getD i default).pc+1))→reG p l k j st=some L→ ∀ x∈L,P x
 |0,_,st,L,h,_,e=>by cases e;exact h
 |j+1,k,st,L,h,hc,e=>by
  have hc': ∀ i,k+1≤i→i<k+1+j→(enI p l i).kind=8→P ((l.getD i default).pc+1):=fun i a b=>hc i (by omega) (by omega)
  unfold reG at e
  split at e
  ·rename_i h8
   split at e
   ·cases e
   ·refine reG_mem p l P j (k+1) _ L (fun x hx=> ?_) hc' e
    rcases List.mem_append.1 hx with hx |hx
    ·exact h x hx
    ·rw [List.mem_singleton.1 hx];exact hc k (by omega) (by omega) h8
  ·split at e
   ·split at e
    ·cases e
    ·exact reG_mem p l P j (k+1) _ L (fun x hx=>h x (List.mem_of_mem_take hx)) hc' e
   ·exact reG_mem p l P j (k+1) _ L h hc' e
theorem gdE_set {l:List En} {k i:Nat} {e:En} (hk:k<l.length):(l.set k e).getD i default=if i=k then e else l.getD i default:=by
 by_cases h:i=k
 ·subst h;simp [List.getD,hk]
 ·rw [if_neg h];simp [List.getD,List.getElem?_set,Ne.symm h]
theorem gdE_take {l:List En} {n i:Nat} (h:i<n):(l.take n).getD i default=l.getD i default:=by
 rw [List.getD_eq_getElem?_getD,List.getD_eq_getElem?_getD,List.getElem?_take,if_pos h]
theorem gdE_app {l r:List En} {i:Nat} (h:i<l.length):(l++r).getD i default=l.getD i default:=by
 simp [List.getD,List.getElem?_append_left h]
theorem gdE_last {l:List En} {e:En}:(l++[e]).getD l.length default=e:=by simp [List.getD]
theorem reG_pcs (p:Pg) (st:List Int) {l l':List En} {k:Nat} (h: ∀ i,i<k→(l.getD i default).pc=(l'.getD i default).pc):reG p l 0 k st=reG p l' 0 k st:=
 reG_congr p l l' k 0 0 st fun i hi=>by rw [Nat.zero_add];exact h i hi
theorem EtOk.pcs {p:Pg} {m:Nat} {st:List Int} {b b':List En} {k:Nat} {e:En} (h:EtOk p m st b k e) (hp: ∀ i,i<k→(b.getD i default).pc=(b'.getD i default).pc):EtOk p m st b' k e:=by
 have e0:=reG_pcs p st hp
 refine ⟨h.sto,fun a b c=> ?_,fun a b=> ?_⟩
 ·have:=h.ret a b c;unfold rOk at this ⊢;rw [←e0];exact this
 ·have:=h.cal a b;unfold lOk at this ⊢;rw [←e0];exact this
theorem Inv.up {p:Pg} {c:Cf} (h:Inv p c) {k:Nat} (hk:k<c.b.length) {e:En} (hp:e.pc=(c.b.getD k default).pc) (he:EnOk p e) (ht:EtOk p c.s.m.length c.s.st c.b k e):Inv p ⟨c.s,c.b.set k e,c.r,c.e⟩:=by
 have hpc: ∀ i,(c.b.getD i default).pc=((c.b.set k e).getD i default).pc:=fun i=>by
  rw [gdE_set hk]
  split
  ·rename_i hi;rw [hi];exact hp.symm
  ·rfl
 refine ⟨h.reg,h.mem,h.ml,h.pc,h.st,h.stk,by show ((c.b.set k e).length:Int)≤_;rw [List.length_set];exact h.bl,fun x hx=> ?_,h.rl,h.rb,fun j hj=> ?_⟩
 ·rcases List.mem_or_eq_of_mem_set hx with h1 |h1
  ·exact h.be x h1
  ·rw [h1];exact he
 ·have hj:j<c.b.length:=by have:(c.b.set k e).length=c.b.length:=List.length_set;exact this▸hj
  show EtOk p _ _ (c.b.set k e) j ((c.b.set k e).getD j default)
  rw [gdE_set hk]
  split
  ·rename_i hi;rw [hi];exact ht.pcs fun i _=>hpc i
  ·exact (h.et j hj).pcs fun i _=>hpc i
theorem Inv.cut {p:Pg} {c:Cf} (h:Inv p c) (n:Nat) {t:Int} (ht: -1≤t∧t≤p.is.length):Inv p ⟨c.s.go t,c.b.take n,c.r,c.e⟩:=by
 refine ⟨h.reg,h.mem,h.ml,ht,h.st,h.stk, ?_,fun x hx=>h.be x (List.mem_of_mem_take hx),h.rl,h.rb,fun j hj=> ?_⟩
 ·have:=h.bl
  show ((c.b.take n).length:Int)≤_
  rw [List.length_take];omega
 ·have hj:j<min n c.b.length:=by have:(c.b.take n).length=min n c.b.length:=List.length_take;exact this▸hj
  show EtOk p _ _ (c.b.take n) j ((c.b.take n).getD j default)
  rw [gdE_take (by omega)]
  exact (h.et j (by omega)).pcs fun i hi=>by rw [gdE_take (by omega)]
end
end Go.Proofs.Ytfjapapiappacaa.Px
namespace Go.Proofs.Ytfjapapiappacaa.Px
section
open Go.RowKit Go.Proofs.Ytfjapapiappacaa.Rx
theorem valE_bd {l:List En} (h: ∀ e∈l,0≤e.val∧e.val<65536) (k:Nat):0≤(l.getD k default).val∧(l.getD k default).val<65536:=by
 by_cases hk:k<l.length
 ·exact h _ (gdE_mem hk)
 ·rw [gdE_out hk];exact ⟨by decide,by decide⟩
theorem regF_bd {p:Pg} {l:List En} {r:Int} (h: ∀ e∈l,0≤e.val∧e.val<65536): ∀ k x,regF p l r k=some x→0≤x.1∧x.1<65536
 |0,x,e=>by cases e
 |k+1,x,e=>by
  unfold regF at e
  split at e
  ·cases e
   split
   ·exact valE_bd h k
   ·exact ⟨by decide,by decide⟩
  ·exact regF_bd h k x e
theorem reg_bd {s:S8} (h:okR s) (r:Int):0≤s.reg r∧s.reg r<65536:=by
 obtain ⟨h0,h1,h2,h3⟩:=h
 unfold S8.reg
 repeat' split
 all_goals assumption
theorem regV_bd {p:Pg} {s:S8} {l:List En} (hs:okR s) (h: ∀ e∈l,0≤e.val∧e.val<65536) (i r:Int):0≤(regV p s l i r).1∧(regV p s l i r).1<65536:=by
 unfold regV
 split
 ·cases e:regF p l r (cl0 i l.length) with
  |some x=>exact regF_bd h _ _ e
  |none=>exact reg_bd hs r
 ·exact ⟨by decide,by decide⟩
theorem valF_bd {p:Pg} {s:S8} {l:List En} (hs:okR s) (h: ∀ e∈l,0≤e.val∧e.val<65536) (i:Int) (v:Vl):0≤(valF p s l i v).1∧(valF p s l i v).1<65536:=by
 unfold valF
 split
 ·exact regV_bd hs h i _
 ·exact Wd.maskV_bd _ _
theorem sml_of {p:Pg} {c:Cf} (hs:okR c.s) (h: ∀ e∈c.b,0≤e.val∧e.val<65536):Sml p c:=fun i x=>by
 have h1:=valF_bd (p:=p) hs h i x.a
 have h2:=valF_bd (p:=p) hs h i x.b
 unfold tA tB
 omega
theorem Inv.val {p:Pg} {c:Cf} (h:Inv p c): ∀ e∈c.b,0≤e.val∧e.val<65536:=fun e he=>(h.be e he).val
theorem Inv.sml {p:Pg} {c:Cf} (h:Inv p c):Sml p c:=sml_of h.reg h.val
theorem Inv.done {p:Pg} {c:Cf} (h:Inv p c) (k:Nat): ∀ e∈(upE c k En.done).b,0≤e.val∧e.val<65536:=fun e he=>by
 rcases List.mem_or_eq_of_mem_set he with h1 |h1
 ·exact h.val e h1
 ·rw [h1];exact valE_bd h.val k
theorem Inv.smlD {p:Pg} {c:Cf} (h:Inv p c) (k:Nat):Sml p (upE c k En.done):=sml_of h.reg (h.done k)
theorem Inv.ok {p:Pg} {c:Cf} (hP:OkP p) (hw:p.win≤1000) (h:Inv p c):MOk p c:=by
 have hl:=hP.len
 have hb:=h.bl
 have hm:c.s.m.length≤16:=by rw [h.ml];exact hP.sum
 have h4:=h.st
 have h2:=h.rl
 refine ⟨hl,by omega,by omega,h.sml,h.smlD,by omega,fun e he=> ?_,fun e he=> ?_,by have:=h.pc;omega,by omega, ?_⟩
 ·have:=(h.be e he).pc;omega
 ·have:=(h.be e he).frm;omega
 ·have hx:=(atI_ok hP (c.b.getD 0 default).pc).1
  refine ⟨fun _=>hx.2.2.2.1,fun a b d=> ?_,fun a b d=> ?_,by omega,by omega,by omega, ?_⟩
  ·by_cases h0:0<c.b.length
   ·exact ⟨(h.be _ (gdE_mem h0)).adr.1,(h.et 0 h0).sto a d b⟩
   ·rw [gdE_out h0] at d;cases d
  ·by_cases h0:0<c.b.length
   ·obtain ⟨L,e,hL⟩:=(h.et 0 h0).ret a d b
    cases e;exact hL
   ·rw [gdE_out h0] at d;cases d
  ·by_cases h0:0<c.b.length
   ·have:=(h.be _ (gdE_mem h0)).pc;omega
   ·rw [gdE_out h0];exact ⟨by decide,by decide⟩
theorem mask_bd (p:Pg) (n:Int):0≤Wd.maskV p.W n∧Wd.maskV p.W n<65536:=Wd.maskV_bd _ _
theorem Inv.goV {p:Pg} {c:Cf} (h:Inv p c) {k:Nat} (hk:k<c.b.length) {t:Int} (ht: -1≤t∧t≤p.is.length):Inv p (goV c k t):=by
 unfold Px.goV
 split
 ·exact h
 ·have he:=h.be _ (gdE_mem hk)
  have h1:=h.up hk (e:=(c.b.getD k default).to t) rfl ⟨he.pc,he.val,he.frm,ht,he.adr⟩ ⟨(h.et k hk).sto,(h.et k hk).ret,(h.et k hk).cal⟩
  exact h1.cut (k+1) ht
theorem ldF_bd {p:Pg} {l:List En} {a:Int} (h: ∀ e∈l,0≤e.val∧e.val<65536): ∀ k x,ldF p l a k=some x→(0≤x.1∧x.1<65536)∧ -1≤x.2.1∧x.2.1≤k
 |0,x,e=>by cases e
 |k+1,x,e=>by
  unfold ldF at e
  split at e
  ·cases e
   split
   ·exact ⟨valE_bd h k,by show (-1:Int)≤(k:Int);omega,by show (k:Int)≤((k+1:Nat):Int);omega⟩
   ·exact ⟨⟨by decide,by decide⟩,by show (-1:Int)≤0;decide,by show (0:Int)≤((k+1:Nat):Int);omega⟩
  ·have:=ldF_bd h k x e
   refine ⟨this.1,this.2.1, ?_⟩
   have:=this.2.2
   omega
theorem ldV_bd {p:Pg} {m:List Int} {l:List En} {i a:Int} (hm: ∀ x∈m,0≤x∧x<65536) (h: ∀ e∈l,0≤e.val∧e.val<65536):(0≤(ldV p m l i a).1∧(ldV p m l i a).1<65536)∧ -1≤(ldV p m l i a).2.1∧(ldV p m l i a).2.1≤l.length:=by
 unfold ldV
 cases e:ldF p l a (cl0 i l.length) with
 |some x=>
  have:=ldF_bd h _ _ e
  have hc:=cl0_le i l.length
  exact ⟨this.1,this.2.1,by have:=this.2.2;show x.2.1≤_;omega⟩
 |none=>
  show (0≤(if _ then _ else _:Int×Int×Bool).1∧_)∧_
  split
  ·exact ⟨mem_bd hm _,by show (-1:Int)≤ -1;decide,by show (-1:Int)≤_;omega⟩
  ·exact ⟨⟨by decide,by decide⟩,by show (-1:Int)≤ -1;decide,by show (-1:Int)≤_;omega⟩
theorem enX_ok {p:Pg} (hP:OkP p) (c:Cf) (k:Nat):OkI (enX p c k) p.is.length∧((enX p c k).kind≠12→0≤(c.b.getD k default).pc∧(c.b.getD k default).pc<p.is.length):=atI_ok hP _
theorem Inv.doO {p:Pg} {c c2:Cf} {o:List Ob} (hP:OkP p) (hw:p.win≤1000) (h:Inv p c) {i:Int} (e:doO p c i=some (c2,o)):Inv p c2:=by
 unfold Px.doO at e
 split at e
 ·rename_i hc
  obtain ⟨k,rfl,hk,hd,hK⟩:=cnV_in hc
  rw [Int.toNat_natCast,Option.some.injEq] at e
  have he:=h.be _ (gdE_mem hk)
  have ht:=h.et k hk
  have hb:=h.bl
  obtain ⟨hx,hx2⟩:=enX_ok hP c k
  have hbD: ∀ i,((upE c k En.done).b.getD i default).pc=(c.b.getD i default).pc:=fun i=>pc_set (l:=c.b) (k:=k) (g:=En.done) (fun _=>rfl) i
  have hlD:(upE c k En.done).b.length=c.b.length:=List.length_set
  have hv0:=valF_bd (p:=p) h.reg (h.done k) (k:Int)
  have n8:(enX p c k).kind=8→False:=fun k8=>by
   unfold cnK at hK
   simp [k8] at hK
  have n3: ∀ {q:Prop}, ¬(enX p c k).kind=3→(atI p (c.b.getD k default).pc).kind=3→q:=fun a b=>absurd b a
  have mk: ∀ e':En,e'.pc=(c.b.getD k default).pc→EnOk p e'→((enX p c k).kind=3→e'.kn=true→e'.ft=false→e'.adr<c.s.m.length)→((enX p c k).kind=9→e'.ft=false→rOk p c.s.st c.b k)→Inv p ⟨c.s,c.b.set k e',c.r,c.e⟩:=fun e' hp ho h3 h9=>
   h.up hk hp ho ⟨fun a=>h3 (by unfold enX;rw [←hp];exact a),fun a _ b=>h9 (by unfold enX;rw [←hp];exact a) b,fun a=>absurd (by unfold enX;rw [←hp];exact a) n8⟩
  unfold dmV at e
  by_cases k1:(enX p c k).kind=1
  ·rw [if_pos k1] at e
   cases e
   exact mk _ rfl ⟨he.pc,doV_bd _ _ _ _,he.frm,he.nxt,he.adr⟩ (fun a=>by omega) (fun a=>by omega)
  rw [if_neg k1] at e
  by_cases k4:(enX p c k).kind=4
  ·rw [if_pos k4] at e
   cases e
   refine mk _ rfl ⟨he.pc, ?_,he.frm,he.nxt,he.adr⟩ (fun a=>by omega) (fun a=>by omega)
   show 0≤(if _ then _ else _:Int)∧(if _ then _ else _:Int)<65536
   split
   ·exact regV_bd h.reg (h.done k) _ _
   ·exact hv0 _
  rw [if_neg k4] at e
  by_cases k3:(enX p c k).kind=3
  ·rw [if_pos k3] at e
   cases e
   exact mk _ rfl ⟨he.pc,regV_bd h.reg (h.done k) _ _,he.frm,he.nxt,he.adr⟩ (fun a b d=>ht.sto a b d) (fun a=>by omega)
  rw [if_neg k3] at e
  by_cases k2:(enX p c k).kind=2
  ·rw [if_pos k2] at e
   split at e
   ·cases e
    exact mk _ rfl ⟨he.pc,he.val,he.frm,he.nxt,mask_bd _ _⟩ (fun a=>by omega) (fun a=>by omega)
   ·cases e
    have hl:=ldV_bd (p:=p) (m:=c.s.m) (l:=(upE c k fun e=>e.done.ad (adV p (upE c k En.done) k (enX p c k))).b) (i:=(k:Int)) (a:=adV p (upE c k En.done) k (enX p c k)) h.mem (fun e he=>by
     rcases List.mem_or_eq_of_mem_set he with h1 |h1
     ·exact h.val e h1
     ·rw [h1];exact valE_bd h.val k)
    have hlb:(upE c k fun e=>e.done.ad (adV p (upE c k En.done) k (enX p c k))).b.length=c.b.length:=List.length_set
    rw [hlb] at hl
    exact mk _ rfl ⟨he.pc,hl.1,⟨hl.2.1,Int.le_trans hl.2.2 (by omega)⟩,he.nxt,mask_bd _ _⟩ (fun a=>by omega) (fun a=>by omega)
  rw [if_neg k2] at e
  by_cases k5:(enX p c k).kind=5
  ·rw [if_pos k5] at e
   cases e
   have hD:Inv p (upE c k En.done):=mk _ rfl ⟨he.pc,he.val,he.frm,he.nxt,he.adr⟩ (fun a=>by omega) (fun a=>by omega)
   have hpc:=hx2 (by omega)
   refine hD.goV (by rw [hlD];exact hk) ?_
   have htg:=hx.2.2.2.2
   split
   ·omega
   ·omega
  rw [if_neg k5] at e
  by_cases k7:(enX p c k).kind=7
  ·rw [if_pos k7] at e
   cases e
   have hD:Inv p (upE c k En.done):=mk _ rfl ⟨he.pc,he.val,he.frm,he.nxt,he.adr⟩ (fun a=>by omega) (fun a=>by omega)
   refine hD.goV (by rw [hlD];exact hk) ?_
   have:=hv0 (enX p c k).a
   unfold jmpV tA
   show -1≤min (valF p c.s (upE c k En.done).b k (enX p c k).a).1 _∧min (valF p c.s (upE c k En.done).b k (enX p c k).a).1 _≤_
   omega
  rw [if_neg k7,reV_nat p c.s.st _ (by rw [hlD];omega),reG_pcs p c.s.st (fun i _=>hbD i)] at e
  have flt:Inv p (upE c k fun e=>e.done.flt):=mk _ rfl ⟨he.pc,he.val,he.frm,he.nxt,he.adr⟩ (fun _ _ a=>by cases a) (fun _ a=>by cases a)
  cases hv:reG p c.b 0 k c.s.st with
  |none=>rw [hv] at e;cases e;exact flt
  |some L=>
   rw [hv] at e
   by_cases h0:L.length=0
   ·have e':(if L.length=0 then ((upE c k fun e=>e.done.flt,[]):Cf×List Ob) else (Px.goV (upE c k En.done) k (lastI L),[⟨3,lastI L⟩]))=(c2,o):=e
    rw [if_pos h0] at e';cases e';exact flt
   ·have e':(if L.length=0 then ((upE c k fun e=>e.done.flt,[]):Cf×List Ob) else (Px.goV (upE c k En.done) k (lastI L),[⟨3,lastI L⟩]))=(c2,o):=e
    rw [if_neg h0] at e';cases e'
    have hD:Inv p (upE c k En.done):=mk _ rfl ⟨he.pc,he.val,he.frm,he.nxt,he.adr⟩ (fun a=>by omega) (fun _ _=>⟨L,hv,h0⟩)
    refine hD.goV (by rw [hlD];exact hk) ?_
    have hm:lastI L∈L:=by unfold lastI;exact gdI_mem (by omega)
    have:=reG_mem p c.b (fun x=>0≤x∧x≤p.is.length) k 0 c.s.st L h.stk (fun i _ hi h8=>by
     have:=(atI_ok hP (c.b.getD i default).pc).2 (by unfold enI at h8;omega)
     omega) hv _ hm
    omega
 ·cases e
theorem Inv.adrO {p:Pg} {c c2:Cf} {o:List Ob} (hP:OkP p) (h:Inv p c) {i:Int} (e:adrO p c i=some (c2,o)):Inv p c2:=by
 unfold Px.adrO at e
 split at e
 ·rename_i hc
  obtain ⟨k,rfl,hk,hd,hK⟩:=caV_in hc
  rw [Int.toNat_natCast,Option.some.injEq] at e
  have he:=h.be _ (gdE_mem hk)
  have ht:=h.et k hk
  have hU: ∀ g:En→En,(g (c.b.getD k default)).pc=(c.b.getD k default).pc→EnOk p (g (c.b.getD k default))→((g (c.b.getD k default)).kn=true→(g (c.b.getD k default)).ft=false→(g (c.b.getD k default)).adr<c.s.m.length)→Inv p (upE c k g):=fun g hp ho h3=>
   h.up hk hp ho ⟨fun _=>h3,fun a=>by rw [hp] at a;unfold enX at hK;omega,fun a=>by rw [hp] at a;unfold enX at hK;omega⟩
  unfold adrV at e
  split at e
  ·cases e
   exact hU _ rfl ⟨he.pc,he.val,he.frm,he.nxt,mask_bd _ _⟩ (fun _ a=>by cases a)
  ·rename_i ho
   have hI:Inv p (upE c k fun e=>e.ad (adV p c k (enX p c k))):=hU _ rfl ⟨he.pc,he.val,he.frm,he.nxt,mask_bd _ _⟩ (fun _ _=>by show adV p c k (enX p c k)<_;omega)
   split at e
   ·rename_i q hz
    cases e
    obtain ⟨q',rfl,hq⟩:=hzV_lt hz
    refine hI.cut _ ?_
    rw [Int.toNat_natCast]
    have:=(hI.be _ (gdE_mem hq)).pc
    omega
   ·cases e;exact hI
 ·cases e
end
end Go.Proofs.Ytfjapapiappacaa.Px
namespace Go.Proofs.Ytfjapapiappacaa.Px
section
open Go.RowKit Go.Proofs.Ytfjapapiappacaa.Rx
theorem gsV_pos {p:Pg} {c:Cf} {g:Int} (h0:0≤g) (h:g<gsV p c):(c.e=0∧c.s.pc≠ -1∧ ¬p.win≤(c.b.length:Int))∧((atI p c.s.pc).kind=7→g≤p.is.length)∧((atI p c.s.pc).kind=9→c.r.length=0→g≤p.is.length):=by
 unfold gsV at h
 split at h
 ·omega
 ·rename_i hn
  refine ⟨⟨?_, ?_, ?_⟩,fun k7=> ?_,fun k9 hr=> ?_⟩
  ·exact Classical.byContradiction fun e=>hn (.inl e)
  ·exact fun e=>hn (.inr (.inl e))
  ·exact fun e=>hn (.inr (.inr e))
  ·rw [if_neg (by omega),if_pos k7] at h;omega
  ·rw [if_neg (by omega),if_neg (by omega),if_pos ⟨k9,hr⟩] at h;omega
theorem ftE_ok {p:Pg} {c:Cf} {g:Int} (hP:OkP p) (h:Inv p c) (h0:0≤g) (hg:g<gsV p c):EnOk p (ftE p c g)∧EtOk p c.s.m.length c.s.st c.b c.b.length (ftE p c g):=by
 obtain ⟨⟨he,hp1,hw⟩,h7,h9⟩:=gsV_pos h0 hg
 have hpc:=h.pc
 have hpc0:0≤c.s.pc∧c.s.pc≤p.is.length:=by omega
 obtain ⟨hx,hx2⟩:=atI_ok hP c.s.pc
 have htg:=hx.2.2.2.2
 have mk: ∀ (n:Int) (d f:Bool), -1≤n∧n≤p.is.length→((atI p c.s.pc).kind=9→d=true→False)→((atI p c.s.pc).kind=8→f=false→lOk p c.s.st c.b c.b.length)→EnOk p ⟨c.s.pc,0,0, -1,n,d,false,f⟩∧EtOk p c.s.m.length c.s.st c.b c.b.length ⟨c.s.pc,0,0, -1,n,d,false,f⟩:=fun n d f hn h9 h8=>
  ⟨⟨hpc0,⟨by show (0:Int)≤0;decide,by show (0:Int)<65536;decide⟩,⟨by show (-1:Int)≤ -1;decide,by show (-1:Int)≤1000000;decide⟩,hn,⟨by show (0:Int)≤0;decide,by show (0:Int)<65536;decide⟩⟩,⟨(fun _ b=>by cases b),(fun a b=>(h9 a b).elim),(fun a b=>h8 a b)⟩⟩
 unfold ftE
 by_cases k5:(atI p c.s.pc).kind=5
 ·rw [if_pos k5]
  have:=hx2 (by omega)
  refine mk _ _ _ ?_ (fun a=>by omega) (fun a=>by omega)
  split<;>omega
 rw [if_neg k5]
 by_cases k6:(atI p c.s.pc).kind=6
 ·rw [if_pos k6];exact mk _ _ _ (by omega) (fun a=>by omega) (fun a=>by omega)
 rw [if_neg k6]
 by_cases k7:(atI p c.s.pc).kind=7
 ·rw [if_pos k7];exact mk _ _ _ (by have:=h7 k7;omega) (fun a=>by omega) (fun a=>by omega)
 rw [if_neg k7]
 by_cases k9:(atI p c.s.pc).kind=9
 ·rw [if_pos k9]
  refine mk _ _ _ ?_ (fun _ b=>by cases b) (fun a=>by omega)
  split
  ·rename_i hr;have:=h9 k9 hr;omega
  ·rename_i hr
   have:=h.rb (lastI c.r) (by unfold lastI;exact gdI_mem (by omega))
   omega
 rw [if_neg k9]
 by_cases k8:(atI p c.s.pc).kind=8
 ·rw [if_pos k8]
  refine mk _ _ _ (by omega) (fun a=>absurd a k9) (fun _ hf=> ?_)
  unfold ftB at hf
  rw [reV_nat p c.s.st c.b (Nat.le_refl _)] at hf
  cases e:reG p c.b 0 c.b.length c.s.st with
  |none=>rw [e] at hf;cases hf
  |some L=>rw [e] at hf;exact ⟨L,e,by have:=of_decide_eq_false hf;omega⟩
 rw [if_neg k8]
 by_cases k1:(atI p c.s.pc).kind=11∨(atI p c.s.pc).kind=12
 ·rw [if_pos k1];exact mk _ _ _ (by omega) (fun a=>absurd a k9) (fun a=>absurd a k8)
 rw [if_neg k1]
 have:=hx2 (fun a=>k1 (.inr a))
 exact mk _ _ _ (by omega) (fun a=>absurd a k9) (fun a=>absurd a k8)
theorem pushL_mem {l:List Int} {pc x:Int} (h:x∈pushL l pc):x∈l∨x=pc:=by
 unfold pushL at h
 rcases List.mem_append.1 (List.mem_of_mem_drop h) with h |h
 ·exact .inl h
 ·exact .inr (List.mem_singleton.1 h)
theorem Inv.ftO {p:Pg} {c c2:Cf} {g:Int} (hP:OkP p) (h:Inv p c) (e:ftO p c g=some c2):Inv p c2:=by
 unfold Px.ftO at e
 split at e
 ·rename_i hg
  cases e
  obtain ⟨ho,ht⟩:=ftE_ok hP h hg.1 hg.2
  obtain ⟨⟨he,hp1,hw⟩, -, -⟩:=gsV_pos hg.1 hg.2
  have hbl:=h.bl
  have hr:(ftR p c).length≤2∧ ∀ x∈ftR p c,0≤x∧x≤p.is.length:=by
   unfold ftR
   have hrl:=h.rl
   split
   ·exact ⟨by rw [List.length_take];omega,fun x hx=>h.rb x (List.mem_of_mem_take hx)⟩
   ·split
    ·rename_i k8
     refine ⟨by rw [push_len];omega,fun x hx=> ?_⟩
     rcases pushL_mem hx with hx |hx
     ·exact h.rb x hx
     ·have:=(atI_ok hP c.s.pc).2 (by omega)
      rw [hx];omega
    ·exact ⟨hrl,h.rb⟩
  refine ⟨h.reg,h.mem,h.ml,ho.nxt,h.st,h.stk, ?_,fun x hx=> ?_,hr.1,hr.2,fun j hj=> ?_⟩
  ·show ((c.b++[ftE p c g]).length:Int)≤_
   rw [List.length_append,List.length_singleton];omega
  ·rcases List.mem_append.1 hx with hx |hx
   ·exact h.be x hx
   ·rw [List.mem_singleton.1 hx];exact ho
  ·have hj:j<c.b.length+1:=by
    have:(c.b++[ftE p c g]).length=c.b.length+1:=by rw [List.length_append];rfl
    exact this▸hj
   show EtOk p _ _ (c.b++[ftE p c g]) j ((c.b++[ftE p c g]).getD j default)
   by_cases hq:j<c.b.length
   ·rw [gdE_app hq]
    exact (h.et j hq).pcs fun i hi=>by rw [gdE_app (by omega)]
   ·obtain rfl:j=c.b.length:=by omega
    rw [gdE_last]
    exact ht.pcs fun i hi=>by rw [gdE_app (by omega)]
 ·cases e
theorem mem_gd {l:List En} {x:En} (h:x∈l): ∃ i,i<l.length∧l.getD i default=x:=by
 obtain ⟨i,hi,e⟩:=List.getElem_of_mem h
 exact ⟨i,hi,by simp [List.getD,hi,e]⟩
theorem popL_mem {l:List En} {x:En} (h:x∈popL l): ∃ e∈l,x=e.pop:=by
 obtain ⟨i,hi,e⟩:=mem_gd h
 rw [popL_len] at hi
 rw [popL_get l (by omega)] at e
 exact ⟨_,gdE_mem (by omega:i+1<l.length),e.symm⟩
theorem pop_frm {e:En} (h: -1≤e.frm∧e.frm≤1000000): -1≤e.pop.frm∧e.pop.frm≤1000000:=by
 by_cases h0:0≤e.frm
 ·rw [pop_y h0];exact ⟨by show -1≤e.frm-1;omega,by show e.frm-1≤_;omega⟩
 ·rw [pop_n h0];exact h
theorem Inv.popS {p:Pg} {c:Cf} (h:Inv p c) {s:S8} (hr:okR s) (hm: ∀ x∈s.m,0≤x∧x<65536) (hml:s.m.length=c.s.m.length) (hpc:s.pc=c.s.pc) (hst:s.st.length≤4) (hsk: ∀ x∈s.st,0≤x∧x≤p.is.length) (hG: ∀ k,k+1<c.b.length→reG p c.b 0 (k+1) c.s.st=reG p c.b 1 k s.st):Inv p ⟨s,popL c.b,c.r,c.e⟩:=by
 refine ⟨hr,hm,hml.trans h.ml,by show -1≤s.pc∧s.pc≤_;rw [hpc];exact h.pc,hst,hsk, ?_,fun x hx=> ?_,h.rl,h.rb,fun j hj=> ?_⟩
 ·have:=h.bl
  show ((popL c.b).length:Int)≤_
  rw [popL_len];omega
 ·obtain ⟨e,he,rfl⟩:=popL_mem hx
  have ho:=h.be e he
  exact ⟨ho.pc,ho.val,pop_frm ho.frm,ho.nxt,ho.adr⟩
 ·have hj:j<c.b.length-1:=by have:=popL_len c.b;exact this▸hj
  show EtOk p s.m.length s.st (popL c.b) j ((popL c.b).getD j default)
  rw [popL_get c.b (by omega),hml]
  have ht:=h.et (j+1) (by omega)
  have hg:reG p (popL c.b) 0 j s.st=reG p c.b 0 (j+1) c.s.st:=by
   rw [hG j (by omega)]
   exact reG_congr p (popL c.b) c.b j 0 1 s.st fun i hi=>by
    rw [Nat.zero_add,popL_get c.b (by omega),Nat.add_comm 1 i];rfl
  refine ⟨ht.sto,fun a b d=> ?_,fun a b=> ?_⟩
  ·have:=ht.ret a b d;unfold rOk at this ⊢;rw [hg];exact this
  ·have:=ht.cal a b;unfold lOk at this ⊢;rw [hg];exact this
theorem Inv.fin {p:Pg} {c:Cf} (h:Inv p c) {t e:Int} (ht: -1≤t∧t≤p.is.length):Inv p ⟨c.s.go t,[],[],e⟩:=
 ⟨h.reg,h.mem,h.ml,ht,h.st,h.stk,(by show ((0:Nat):Int)≤_;omega),(fun _ hx=>by cases hx),(by show 0≤2;omega),(fun _ hx=>by cases hx),fun k hk=>absurd hk (Nat.not_lt_zero k)⟩
theorem Inv.rtO {p:Pg} {c c2:Cf} (hP:OkP p) (h:Inv p c) (e:rtO p c=some c2):Inv p c2:=by
 unfold Px.rtO at e
 split at e
 ·rename_i hc
  cases e
  obtain ⟨h0,hl,hdn,hkn⟩:=crV_in hc
  have ho:=h.be _ (gdE_mem hl)
  have ht:=h.et 0 hl
  have hpc: -1≤(c.b.getD 0 default).pc∧(c.b.getD 0 default).pc≤p.is.length:=by have:=ho.pc;omega
  obtain ⟨hx,hx2⟩:=enX_ok hP c 0
  have hG: ∀ k,reG p c.b 0 (k+1) c.s.st=if (enX p c 0).kind=8 then (if 4≤c.s.st.length then none else reG p c.b 1 k (c.s.st++[(c.b.getD 0 default).pc+1])) else if (enX p c 0).kind=9 then (if c.s.st.length=0 then none else reG p c.b 1 k (c.s.st.take (c.s.st.length-1))) else reG p c.b 1 k c.s.st:=fun k=>rfl
  have hst:=h.st
  unfold rtV
  by_cases n12:(c.b.getD 0 default).ft=true∨(enX p c 0).kind=12
  ·rw [if_pos n12];exact h.fin hpc
  rw [if_neg n12]
  have hf:(c.b.getD 0 default).ft=false:=by
   cases hb:(c.b.getD 0 default).ft with
   |true=>exact absurd (.inl hb) n12
   |false=>rfl
  by_cases k11:(enX p c 0).kind=11
  ·rw [if_pos k11];exact h.fin hpc
  rw [if_neg k11]
  by_cases kd:dstB (enX p c 0)=true
  ·rw [if_pos kd]
   have n8:(enX p c 0).kind≠8∧(enX p c 0).kind≠9:=by
    constructor<;>(intro k8;unfold dstB at kd;rw [k8] at kd;revert kd;decide)
   exact h.popS (set_ok h.reg _ ho.val) h.mem rfl rfl hst h.stk fun k _=>by rw [hG,if_neg n8.1,if_neg n8.2];rfl
  rw [if_neg kd]
  by_cases k3:(enX p c 0).kind=3
  ·rw [if_pos k3]
   refine h.popS h.reg (fun x hx=> ?_) (by show (List.set _ _ _).length=_;rw [List.length_set]) rfl hst h.stk fun k _=>by rw [hG,if_neg (by omega),if_neg (by omega)]
   rcases List.mem_or_eq_of_mem_set hx with h1 |h1
   ·exact h.mem x h1
   ·rw [h1];exact ho.val
  rw [if_neg k3]
  by_cases k8:(enX p c 0).kind=8
  ·rw [if_pos k8]
   obtain ⟨L,e,hL⟩:=ht.cal k8 hf
   cases e
   have:=hx2 (by omega)
   refine h.popS h.reg h.mem rfl rfl (by show (c.s.st++[_]).length≤4;rw [List.length_append,List.length_singleton];omega) (fun x hx=> ?_) fun k _=>by rw [hG,if_pos k8,if_neg (by omega)]
   rcases List.mem_append.1 hx with hx |hx
   ·exact h.stk x hx
   ·rw [List.mem_singleton.1 hx];omega
  rw [if_neg k8]
  by_cases k9:(enX p c 0).kind=9
  ·rw [if_pos k9]
   obtain ⟨L,e,hL⟩:=ht.ret k9 (by rcases hdn with h |h;exact h;omega) hf
   cases e
   exact h.popS h.reg h.mem rfl rfl (by show (c.s.st.take _).length≤4;rw [List.length_take];omega) (fun x hx=>h.stk x (List.mem_of_mem_take hx)) fun k _=>by rw [hG,if_neg k8,if_pos k9,if_neg hL]
  rw [if_neg k9]
  exact h.popS h.reg h.mem rfl rfl hst h.stk fun k _=>by rw [hG,if_neg k8,if_neg k9]
 ·cases e
theorem Inv.sayO {p:Pg} {c c2:Cf} {o:List Ob} (hP:OkP p) (hw:p.win≤1000) (h:Inv p c) {d:Dr} (e:sayO p c d=some (c2,o)):Inv p c2:=by
 unfold Px.sayO at e
 split at e
 ·cases hq:Px.ftO p c d.n with
  |none=>rw [hq] at e;cases e
  |some x=>rw [hq] at e;cases e;exact h.ftO hP hq
 ·split at e
  ·exact h.doO hP hw e
  ·split at e
   ·exact h.adrO hP e
   ·split at e
    ·split at e
     ·cases hq:Px.rtO p c with
      |none=>rw [hq] at e;cases e
      |some x=>rw [hq] at e;cases e;exact h.rtO hP hq
     ·cases e
    ·cases e
theorem Inv.begin {p:Pg} {s:S8} (hs:OkS s.m.length p.is.length s) (hm:s.m.length=sumN p.ms) (hst:s.st.length≤4) (hsk: ∀ x∈s.st,0≤x∧x≤p.is.length):Inv p ⟨s,[],[],0⟩:=
 ⟨hs.reg,hs.mem,hm,hs.pc,hst,hsk,(by show ((0:Nat):Int)≤_;omega),(fun _ hx=>by cases hx),(by show 0≤2;omega),(fun _ hx=>by cases hx),fun k hk=>absurd hk (Nat.not_lt_zero k)⟩
end
end Go.Proofs.Ytfjapapiappacaa.Px
namespace Go.Proofs.Ytfjapapiappacaa.Px
section
open Go.RowKit Go.Proofs.Ytfjapapiappacaa.Rx
def cfB (c:Cf):Blk:=⟨0,false,30, .box (cfA c)⟩
def cfJ:Blk:=⟨0,false,30, .box (List.replicate 10 .junk)⟩
def wkI (l:List Int) (i:Nat) (D:List Dr):Nat:=(Int.tmod (bits .and .i64 (l.getD i 0) 65535) D.length).toNat
def wkD (p:Pg) (l:List Int) (c:Cf) (i:Nat):Dr:=(allV p c).getD (wkI l i (allV p c)) default
def wkR (p:Pg) (l:List Int):Nat→Nat→Cf→List Dr→Cf×List Dr
 |0,_,c,o=>(c,o)
 |j+1,i,c,o=>if (allV p c).length=0 then (c,o) else match sayO p c (wkD p l c i) with
  |none=>(c,o)
  |some x=>wkR p l j (i+1) x.1 (o++[wkD p l c i])
def beg (s:S8):Cf:=⟨s,[],[],0⟩
def wkV (p:Pg) (s:S8) (l:List Int):Cf×List Dr:=wkR p l (min l.length 60) 0 (beg s) []
def wS (p:Pg) (l:List Int) (c:Cf) (o:List Dr) (i:Nat):Sm:=⟨[(3,pgP p),(2,lR l),(6, .bptr 0 0),(8, .bptr 1 0),(9, .own 2 0 2 0 o.length),(10, .int .i64 i)],[(0,cfJ),(1,cfB c),(2,drB o)],3⟩
def wJ (x:Cf×List Dr):Sm:=⟨[(6, .bptr 0 0),(8, .bptr 1 0),(9, .own 2 0 2 0 x.2.length)],[(0,cfJ),(1,cfB x.1),(2,drB x.2)],3⟩
theorem zM120 (s:S8) {Z:Prop} (z:Z):(RF s.r0 (RF s.r1 (RF s.r2 (RF s.r3 (RF s.m.length (RR s.m.length 1 (fun i j=>aI (s.m.getD i 0)) (RF s.st.length (RR s.st.length 1 (fun i j=>aI (s.st.getD i 0)) (RF s.pc Z))))))))):=⟨rfl,rfl,rfl,rfl,rfl,fun _ _ _ _=>rfl,rfl,fun _ _ _ _=>rfl,rfl,z⟩
theorem beg_vc (s:S8):Vc (vcFn Try.prog false 21 [.agg (s8R s)] [.fz] [] (.agg (cfA (beg s))) []):=vc_by (zM120 s (cj (rf (0:Nat)) (cj (rf (0:Nat)) (cj (rf (0:Int)) trivial)))) (by kernel_rfl)
theorem rbegC (s:S8):PureC Try.prog 21 [.agg (s8R s)] (.agg (cfA (beg s))) []:=PureC.vc (beg_vc s)
theorem zM121 (c:Cf) (o:List Dr) {Z:Prop} (z:Z):(RF c.b.length (RR c.b.length 8 (fun i j=>rowL enC c.b i j) (RF c.r.length (RR c.r.length 1 (fun i j=>aI (c.r.getD i 0)) (RF c.e (RF o.length (RR o.length 2 (fun i j=>rowL drC o i j) (RF (0:Nat) (RF o.length Z))))))))):=⟨rfl,fun _ _ _ _=>rfl,rfl,fun _ _ _ _=>rfl,rfl,rfl,fun _ _ _ _=>rfl,rfl,rfl,z⟩
theorem zM122 (c:Cf) {Z:Prop} (z:Z):(RF c.s.r0 (RF c.s.r1 (RF c.s.r2 (RF c.s.r3 (RF c.s.m.length (RR c.s.m.length 1 (fun i j=>aI (List.getD c.s.m i (0:Int))) (RF c.s.st.length (RR c.s.st.length 1 (fun i j=>aI (List.getD c.s.st i (0:Int))) (RF c.s.pc Z))))))))):=⟨rfl,rfl,rfl,rfl,rfl,fun _ _ _ _=>rfl,rfl,fun _ _ _ _=>rfl,rfl,z⟩
theorem wk_e (p:Pg) (l:List Int) (c:Cf) (o:List Dr) (i:Nat) (h: ¬i<l.length):Vc (vcC Try.prog false (ntOf Try.prog 18) (lpC Try.prog 18 0) (wS p l c o i) [.bd false] (.ext 0) [(0,0),(1,1),(2,2)] (wJ (c,o))):=vc_by (cj (df ((i:Int)<(l.length:Int))) (zM122 c (zM121 c o trivial))) (by kernel_rfl)
theorem wk_6 (p:Pg) (l:List Int) (c:Cf) (o:List Dr) (i:Nat) (h:i<l.length) (h6: ¬i<60):Vc (vcC Try.prog false (ntOf Try.prog 18) (lpC Try.prog 18 0) (wS p l c o i) [.bd true, .bd false] (.ext 0) [(0,0),(1,1),(2,2)] (wJ (c,o))):=vc_by (cj (dt ((i:Int)<(l.length:Int))) (cj (df ((i:Int)<60)) (zM122 c (zM121 c o trivial)))) (by kernel_rfl)
theorem zM123 (c:Cf) {Z:Prop} (z:Z):(RR c.s.m.length 1 (fun i j=>aI (List.getD c.s.m i (0:Int))) (RF c.s.st.length (RR c.s.st.length 1 (fun i j=>aI (List.getD c.s.st i (0:Int))) (RF c.s.pc (RF c.b.length (RR c.b.length 8 (fun i j=>rowL enC c.b i j) (RF c.r.length (RR c.r.length 1 (fun i j=>aI (c.r.getD i 0)) (RF c.e Z))))))))):=⟨fun _ _ _ _=>rfl,rfl,fun _ _ _ _=>rfl,rfl,rfl,fun _ _ _ _=>rfl,rfl,fun _ _ _ _=>rfl,rfl,z⟩
theorem zM124 (p:Pg) (c:Cf) {Z:Prop} (z:Z):(RF p.ls.length (RR p.ls.length 2 (fun i j=>rowL lbC p.ls i j) (RF p.is.length (RR p.is.length 9 (fun i j=>rowL inC p.is i j) (RF c.s.r0 (RF c.s.r1 (RF c.s.r2 (RF c.s.r3 (RF c.s.m.length Z))))))))):=⟨rfl,fun _ _ _ _=>rfl,rfl,fun _ _ _ _=>rfl,rfl,rfl,rfl,rfl,rfl,z⟩
theorem zM125 (p:Pg) {Z:Prop} (z:Z):(RF p.W (RF p.win (RF p.fuel (RF p.r0 (RF p.r1 (RF p.r2 (RF p.r3 (RF p.ms.length (RR p.ms.length 3 (fun i j=>rowL mmC p.ms i j) Z))))))))):=⟨rfl,rfl,rfl,rfl,rfl,rfl,rfl,rfl,fun _ _ _ _=>rfl,z⟩
abbrev qM120 (p:Pg) (c:Cf):Prop:=PureC Try.prog 19 [.agg (pgA p), .agg (cfA c)] (drR (allV p c)) []
abbrev oM121 (p:Pg) (c:Cf):Orc:= .cl [.agg (pgA p), .agg (cfA c)] (drR (allV p c)) []
theorem wk_0 (p:Pg) (l:List Int) (c:Cf) (o:List Dr) (i:Nat) (h:i<l.length) (h6:i<60) (hA:qM120 p c) (h0:(allV p c).length=0):Vc (vcC Try.prog false (ntOf Try.prog 18) (lpC Try.prog 18 0) (wS p l c o i) [.bd true, .bd true,oM121 p c, .bd true] (.ext 0) [(0,0),(1,1),(2,2)] (wJ (c,o))):=vc_by (cj (dt ((i:Int)<(l.length:Int))) (cj (dt ((i:Int)<60)) (zM125 p (zM124 p c (zM123 c (cj hA (cj (e1 (↑((allV p c).length):Int) 0) (zM122 c (zM121 c o trivial))))))))) (by kernel_rfl)
theorem wk_n (p:Pg) (l:List Int) (c:Cf) (o:List Dr) (i:Nat) (h:i<l.length) (h6:i<60) (hA:qM120 p c) (h0: ¬(allV p c).length=0) (hi0:0≤Int.tmod (bits .and .i64 (l.getD i 0) 65535) (allV p c).length) (hi1:Int.tmod (bits .and .i64 (l.getD i 0) 65535) (allV p c).length<(allV p c).length) (ho:o.length<1000) (hS:PureC Try.prog 34 [.agg (pgA p), .agg (cfA c), .agg (drA (wkD p l c i))] (dmA none) []):Vc (vcC Try.prog false (ntOf Try.prog 18) (lpC Try.prog 18 0) (wS p l c o i) [.bd true, .bd true,oM121 p c, .bd false, .cl [.agg (pgA p), .agg (cfA c), .agg (drA (wkD p l c i))] (dmA none) []] (.ext 0) [(0,0),(1,1),(2,2)] (wJ (c,o))):=vc_by (cj (dt ((i:Int)<(l.length:Int))) (cj (dt ((i:Int)<60)) (zM125 p (zM124 p c (zM123 c (cj hA (cj (e0 (↑((allV p c).length):Int) 0) (cj (bi (i:Int) (l.length:Int)) (cj (pv ((↑((allV p c).length):Int)≠0)) (cj (bi (Int.tmod (Go.bits Go.BinOp.and IntKind.i64 (l.getD i 0) (65535:Int)) (↑((allV p c).length):Int)) (↑((allV p c).length):Int)) (zM125 p (zM124 p c (zM123 c (cj (rf ((wkD p l c i).k)) (cj (rf ((wkD p l c i).n)) (cj hS (zM122 c (zM121 c o trivial)))))))))))))))))) (by kernel_rfl)
theorem sM120 (p:Pg) (l:List Int) (c:Cf) (o:List Dr) (i:Nat) (h:i<l.length): ∀ (i_1:Nat),i_1<o.length+1→ ∀ (j:Nat),j<2→(bif Nat.blt i_1 o.length then rowL drC o i_1 j else List.getD [aI ((List.getD (allV p c) (Int.toNat (Int.tmod (Go.bits Go.BinOp.and IntKind.i64 (l.getD i 0) (65535:Int)) (↑((allV p c).length):Int))) default).k),aI ((List.getD (allV p c) (Int.toNat (Int.tmod (Go.bits Go.BinOp.and IntKind.i64 (l.getD i 0) (65535:Int)) (↑((allV p c).length):Int))) default).n)] ((i_1-o.length+0)*2+j) AV.junk)=rowL drC (o++[wkD p l c i]) i_1 j:=(fun i hi j hj=>row_if (fun h=>(rowL_left h).symm) (fun h=>by obtain rfl:i=_:=Nat.le_antisymm (Nat.lt_succ_iff.mp hi) (Nat.not_lt.mp h);rw [rowL_last,Nat.sub_self];match j,hj with |0,_=>rfl |1,_=>rfl))
theorem zM126 (p:Pg) (l:List Int) {Z:Prop} (z:Z):(RF p.ls.length (RR p.ls.length 2 (fun i j=>rowL lbC p.ls i j) (RF p.is.length (RR p.is.length 9 (fun i j=>rowL inC p.is i j) (RF l.length (RR l.length 1 (fun i j=>aI (l.getD i 0)) (RF (0:Nat) Z))))))):=⟨rfl,fun _ _ _ _=>rfl,rfl,fun _ _ _ _=>rfl,rfl,fun _ _ _ _=>rfl,rfl,z⟩
theorem zM127 (c2:Cf) {Z:Prop} (z:Z):(RF c2.b.length (RR c2.b.length 8 (fun i j=>rowL enC c2.b i j) (RF c2.r.length (RR c2.r.length 1 (fun i j=>aI (c2.r.getD i 0)) (RF c2.e Z))))):=⟨rfl,fun _ _ _ _=>rfl,rfl,fun _ _ _ _=>rfl,rfl,z⟩
theorem zM128 (c2:Cf) {Z:Prop} (z:Z):(RF c2.s.r0 (RF c2.s.r1 (RF c2.s.r2 (RF c2.s.r3 (RF c2.s.m.length (RR c2.s.m.length 1 (fun i j=>aI (List.getD c2.s.m i (0:Int))) (RF c2.s.st.length (RR c2.s.st.length 1 (fun i j=>aI (List.getD c2.s.st i (0:Int))) (RF c2.s.pc Z))))))))):=⟨rfl,rfl,rfl,rfl,rfl,fun _ _ _ _=>rfl,rfl,fun _ _ _ _=>rfl,rfl,z⟩
theorem wk_s (p:Pg) (l:List Int) (c:Cf) (o:List Dr) (i:Nat) (h:i<l.length) (h6:i<60) (hA:qM120 p c) (h0: ¬(allV p c).length=0) (hi0:0≤Int.tmod (bits .and .i64 (l.getD i 0) 65535) (allV p c).length) (hi1:Int.tmod (bits .and .i64 (l.getD i 0) 65535) (allV p c).length<(allV p c).length) (ho:o.length<1000) (c2:Cf) (hS:PureC Try.prog 34 [.agg (pgA p), .agg (cfA c), .agg (drA (wkD p l c i))] (dmA (some (c2,[]))) []):Vc (vcC Try.prog false (ntOf Try.prog 18) (lpC Try.prog 18 0) (wS p l c o i) [.bd true, .bd true,oM121 p c, .bd false, .cl [.agg (pgA p), .agg (cfA c), .agg (drA (wkD p l c i))] (dmA (some (c2,[]))) [], .b false] .nrm [(0,0),(1,1),(2,2)] (wS p l c2 (o++[wkD p l c i]) (i+1))):=vc_by (cj (dt ((i:Int)<(l.length:Int))) (cj (dt ((i:Int)<60)) (zM125 p (zM124 p c (zM123 c (cj hA (cj (e0 (↑((allV p c).length):Int) 0) (cj (bi (i:Int) (l.length:Int)) (cj (pv ((↑((allV p c).length):Int)≠0)) (cj (bi (Int.tmod (Go.bits Go.BinOp.and IntKind.i64 (l.getD i 0) (65535:Int)) (↑((allV p c).length):Int)) (↑((allV p c).length):Int)) (zM125 p (zM124 p c (zM123 c (cj (rf ((wkD p l c i).k)) (cj (rf ((wkD p l c i).n)) (cj hS (cj (rf false) (cj (bi (i:Int) (l.length:Int)) (cj (pv ((↑((allV p c).length):Int)≠0)) (cj (bi (Int.tmod (Go.bits Go.BinOp.and IntKind.i64 (l.getD i 0) (65535:Int)) (↑((allV p c).length):Int)) (↑((allV p c).length):Int)) (cj (ap o.length 1 16) (cj (i6 ((i:Int)+1)) (zM128 c2 (zM127 c2 (cj (pv (o.length+1=(o++[wkD p l c i]).length)) (cj (sM120 p l c o i h) (zM125 p (zM126 p l (cj (pv (o.length+1=(o++[wkD p l c i]).length)) (cj (rf ((i:Int)+1)) trivial)))))))))))))))))))))))))))))) (by kernel_rfl)
theorem wk_o (p:Pg) (l:List Int) (c:Cf) (o:List Dr) (i:Nat) (h:i<l.length) (h6:i<60) (hA:qM120 p c) (h0: ¬(allV p c).length=0) (hi0:0≤Int.tmod (bits .and .i64 (l.getD i 0) 65535) (allV p c).length) (hi1:Int.tmod (bits .and .i64 (l.getD i 0) 65535) (allV p c).length<(allV p c).length) (ho:o.length<1000) (c2:Cf) (x:Ob) (r0:List Ob) (hS:PureC Try.prog 34 [.agg (pgA p), .agg (cfA c), .agg (drA (wkD p l c i))] (dmA (some (c2,x::r0))) []):Vc (vcC Try.prog false (ntOf Try.prog 18) (lpC Try.prog 18 0) (wS p l c o i) [.bd true, .bd true,oM121 p c, .bd false, .cl [.agg (pgA p), .agg (cfA c), .agg (drA (wkD p l c i))] (dmA (some (c2,x::r0))) [], .b false] .nrm [(0,0),(1,1),(2,2)] (wS p l c2 (o++[wkD p l c i]) (i+1))):=vc_by (cj (dt ((i:Int)<(l.length:Int))) (cj (dt ((i:Int)<60)) (zM125 p (zM124 p c (zM123 c (cj hA (cj (e0 (↑((allV p c).length):Int) 0) (cj (bi (i:Int) (l.length:Int)) (cj (pv ((↑((allV p c).length):Int)≠0)) (cj (bi (Int.tmod (Go.bits Go.BinOp.and IntKind.i64 (l.getD i 0) (65535:Int)) (↑((allV p c).length):Int)) (↑((allV p c).length):Int)) (zM125 p (zM124 p c (zM123 c (cj (rf ((wkD p l c i).k)) (cj (rf ((wkD p l c i).n)) (cj hS (cj (rf false) (cj (bi (i:Int) (l.length:Int)) (cj (pv ((↑((allV p c).length):Int)≠0)) (cj (bi (Int.tmod (Go.bits Go.BinOp.and IntKind.i64 (l.getD i 0) (65535:Int)) (↑((allV p c).length):Int)) (↑((allV p c).length):Int)) (cj (ap o.length 1 16) (cj (i6 ((i:Int)+1)) (zM128 c2 (zM127 c2 (cj (pv (o.length+1=(o++[wkD p l c i]).length)) (cj (sM120 p l c o i h) (zM125 p (zM126 p l (cj (pv (o.length+1=(o++[wkD p l c i]).length)) (cj (rf ((i:Int)+1)) trivial)))))))))))))))))))))))))))))) (by kernel_rfl)
theorem wkI_bd (l:List Int) (i:Nat) {D:List Dr} (h: ¬D.length=0):0≤Int.tmod (bits .and .i64 (l.getD i 0) 65535) D.length∧Int.tmod (bits .and .i64 (l.getD i 0) 65535) D.length<D.length:=by
 have h1:=Wd.bits_mask (l.getD i 0) 16 (by omega)
 have h2:bits .and .i64 (l.getD i 0) 65535=(l.getD i 0)%65536:=h1
 have hb:0<(D.length:Int):=by omega
 have h0:0≤bits .and .i64 (l.getD i 0) 65535:=by omega
 exact tmod_bd h0 hb
theorem wk_loop (p:Pg) (l:List Int) (hP:OkP p) (hw:p.win≤1000): ∀ j i c o,i+j=min l.length 60→Inv p c→o.length≤i→OkL Try.prog (ntOf Try.prog 18) (lpC Try.prog 18 0) (wS p l c o i).st (.ext 0) (wJ (wkR p l j i c o)).st
 |0,i,c,o,hj,_,_=>by
  by_cases h:i<l.length
  ·exact OkL.exit (Ok.vc (wk_6 p l c o i h (by omega))) (by simp)
  ·exact OkL.exit (Ok.vc (wk_e p l c o i h)) (by simp)
 |j+1,i,c,o,hj,hI,ho=>by
  have hM:=hI.ok hP hw
  have hA:=rallC p c hM.il hM.bl hM.ml hM.sm
  unfold wkR
  by_cases h0:(allV p c).length=0
  ·rw [if_pos h0];exact OkL.exit (Ok.vc (wk_0 p l c o i (by omega) (by omega) hA h0)) (by simp)
  rw [if_neg h0]
  obtain ⟨b0,b1⟩:=wkI_bd l i h0
  have hS:=rsayC p c (wkD p l c i) hM
  cases e:sayO p c (wkD p l c i) with
  |none=>rw [e] at hS;exact OkL.exit (Ok.vc (wk_n p l c o i (by omega) (by omega) hA h0 b0 b1 (by omega) hS)) (by simp)
  |some x=>
   obtain ⟨c2,ob⟩:=x
   rw [e] at hS
   have hr:=wk_loop p l hP hw j (i+1) c2 (o++[wkD p l c i]) (by omega) (hI.sayO hP hw e) (by rw [List.length_append,List.length_singleton];omega)
   cases ob with
   |nil=>exact OkL.step (Ok.vc (wk_s p l c o i (by omega) (by omega) hA h0 b0 b1 (by omega) c2 hS)) hr
   |cons y r=>exact OkL.step (Ok.vc (wk_o p l c o i (by omega) (by omega) hA h0 b0 b1 (by omega) c2 y r hS)) hr
theorem walk_vc (p:Pg) (s:S8) (l:List Int) (x:Cf×List Dr) (h:Ok Try.prog (ntOf Try.prog 18) (.loop (lpC Try.prog 18 0)) (wS p l (beg s) [] 0).st (.ext 0) (wJ x).st):Vc (vcFn Try.prog false 18 [.agg (pgA p), .agg (s8R s),lR l] [.fv, .fv, .cl [.agg (s8R s)] (.agg (cfA (beg s))) [], .lp [(0,0),(1,1)] (wS p l (beg s) [] 0) (.ext 0) (wJ x)] [] (.tup [.agg (cfA x.1),drR x.2]) []):=vc_by (zM120 s (cj (rbegC s) (zM120 s (cj (rf (0:Nat)) (cj (rr 0 8 fun i j=>rowL enC [] i j) (cj (rf (0:Nat)) (cj (rr 0 1 fun i j=>aI (List.getD [] i (0:Int))) (cj (rf (0:Int)) (cj (rf (0:Nat)) (cj (rf p.W) (cj (rf p.win) (cj (rf p.fuel) (cj (rf p.r0) (cj (rf p.r1) (cj (rf p.r2) (cj (rf p.r3) (cj (rf p.ms.length) (cj (rr p.ms.length 3 fun i j=>rowL mmC p.ms i j) (cj (rf p.ls.length) (cj (rr p.ls.length 2 fun i j=>rowL lbC p.ls i j) (cj (rf p.is.length) (cj (rr p.is.length 9 fun i j=>rowL inC p.is i j) (cj (rf l.length) (cj (rr l.length 1 fun i j=>aI (l.getD i 0)) (cj (rf (0:Nat)) (cj (rf (0:Nat)) (cj (rf (0:Int)) (cj h (cj (rf ((Prod.fst x).s.r0)) (cj (rf ((Prod.fst x).s.r1)) (cj (rf ((Prod.fst x).s.r2)) (cj (rf ((Prod.fst x).s.r3)) (cj (rf (((Prod.fst x).s.m).length)) (cj (rr (((Prod.fst x).s).m.length) 1 fun i j=>aI (List.getD ((Prod.fst x).s).m i (0:Int))) (cj (rf (((Prod.fst x).s.st).length)) (cj (rr (((Prod.fst x).s).st.length) 1 fun i j=>aI (List.getD ((Prod.fst x).s).st i (0:Int))) (cj (rf ((Prod.fst x).s.pc)) (cj (rf ((Prod.fst x).b.length)) (cj (rr ((Prod.fst x).b.length) 8 fun i j=>rowL enC (Prod.fst x).b i j) (cj (rf ((Prod.fst x).r.length)) (cj (rr ((Prod.fst x).r.length) 1 fun i j=>aI (List.getD (Prod.fst x).r i (0:Int))) (cj (rf ((Prod.fst x).e)) (cj (rf ((Prod.snd x).length)) (cj (rr ((Prod.snd x).length) 2 fun i j=>rowL drC (Prod.snd x) i j) trivial)))))))))))))))))))))))))))))))))))))))))))) (by kernel_rfl)
theorem wkR_inv {p:Pg} {l:List Int} (hP:OkP p) (hw:p.win≤1000): ∀ j i c o,Inv p c→Inv p (wkR p l j i c o).1
 |0,i,c,o,h=>h
 |j+1,i,c,o,h=>by
  unfold wkR
  split
  ·exact h
  ·cases e:sayO p c (wkD p l c i) with
   |none=>exact h
   |some x=>exact wkR_inv hP hw j (i+1) x.1 _ (h.sayO hP hw (o:=x.2) e)
theorem rwalkC (p:Pg) (s:S8) (l:List Int) (hP:OkP p) (hw:p.win≤1000) (h:Inv p (beg s)):PureC Try.prog 18 [.agg (pgA p), .agg (s8R s),lR l] (.tup [.agg (cfA (wkV p s l).1),drR (wkV p s l).2]) []:=PureC.vc (walk_vc p s l _ (wk_loop p l hP hw _ 0 (beg s) [] (by omega) h (Nat.le_refl _)).ok)
end
end Go.Proofs.Ytfjapapiappacaa.Px
namespace Go.Proofs.Ytfjapapiappacaa.Px
section
open Go.RowKit Go.Proofs.Ytfjapapiappacaa.Rx
def intsL (s:S8):List Int:=((([s.r0,s.r1,s.r2,s.r3,(s.m.length:Int)]++s.m)++[(s.st.length:Int)])++s.st)++[s.pc]
def enN (e:En):List Int:=[e.pc,e.val,e.adr,e.frm,e.nxt,Wd.tI e.dn,Wd.tI e.kn,Wd.tI e.ft]
def ciK (c:Cf):Nat→List Int
 |0=>intsL c.s++[(c.b.length:Int)]
 |k+1=>ciK c k++enN (c.b.getD k default)
def ciL (c:Cf):List Int:=((ciK c c.b.length++[(c.r.length:Int)])++c.r)++[c.e]
def ciS (c:Cf) (X:List Int) (k:Nat):Sm:=⟨[(1,cfP c),(3, .own 0 0 1 0 X.length),(4, .int .i64 k)],[(0,blkI X)],1⟩
theorem cat_if {A B:List Int} {n i:Nat} {x y:AV} (hn:n=A.length) (hx:i<n→x= .int .i64 (A.getD i 0)) (hy:n≤i→y= .int .i64 (B.getD (i-n) 0)):(bif Nat.blt i n then x else y)= .int .i64 ((A++B).getD i 0):=by
 subst hn
 by_cases h:i<A.length
 ·have:Nat.blt i A.length=true:=by rw [Nat.blt_eq];exact h
  rw [this,cond_true,hx h]
  simp [List.getD,List.getElem?_append_left h]
 ·have:Nat.blt i A.length=false:=by
   cases hb:Nat.blt i A.length with
   |false=>rfl
   |true=>rw [Nat.blt_eq] at hb;omega
  rw [this,cond_false,hy (by omega)]
  simp [List.getD,List.getElem?_append_right (Nat.le_of_not_lt h)]
theorem sing {x:Int} {q:Nat} (h:q=0):[AV.int .i64 x].getD ((q+0)*1+0) .junk= .int .i64 ([x].getD q 0):=by subst h;rfl
theorem five {a b c d e:Int} {i:Nat} (h:i<5):[AV.int .i64 a, .int .i64 b, .int .i64 c, .int .i64 d, .int .i64 e].getD ((i+0)*1+0) .junk= .int .i64 ([a,b,c,d,e].getD i 0):=
 match i,h with |0,_=>rfl |1,_=>rfl |2,_=>rfl |3,_=>rfl |4,_=>rfl
theorem intsL_len (s:S8):(intsL s).length=s.m.length+s.st.length+7:=by simp [intsL];omega
theorem in_o (s:S8) (L:List Int) (hL:L=intsL s) (hm:s.m.length<1000000) (hst:s.st.length<1000000):Vc (vcFn Try.prog false 26 [.agg (s8R s)] [.fv] [(0,0)] (.own 0 0 1 0 L.length) [blkI L]):=vc_by (cj (pv ((0:Nat)=0∧(5:Nat)=5∧((5:Nat)+s.m.length)*8≤140737488355328∧(5:Nat)+s.m.length≤140737488355328)) (cj (pv ((0:Nat)=0∧(5:Nat)+s.m.length=5+s.m.length∧((5:Nat)+s.m.length+1)*8≤140737488355328∧(5:Nat)+s.m.length+1≤140737488355328)) (cj (pv ((0:Nat)=0∧(5:Nat)+s.m.length+1=5+s.m.length+1∧((5:Nat)+s.m.length+1+s.st.length)*8≤140737488355328∧(5:Nat)+s.m.length+1+s.st.length≤140737488355328)) (cj (pv ((0:Nat)=0∧(5:Nat)+s.m.length+1+s.st.length=5+s.m.length+1+s.st.length∧((5:Nat)+s.m.length+1+s.st.length+1)*8≤140737488355328∧(5:Nat)+s.m.length+1+s.st.length+1≤140737488355328)) (cj (show (5:Nat)+s.m.length+1+s.st.length+1=L.length from by rw [hL,intsL_len];omega) (cj (show ∀ (i:Nat),i<5+s.m.length+1+s.st.length+1→ ∀ (j:Nat),j<1→(bif Nat.blt i ((5:Nat)+s.m.length+1+s.st.length) then bif Nat.blt i ((5:Nat)+s.m.length+1) then bif Nat.blt i ((5:Nat)+s.m.length) then bif Nat.blt i (5:Nat) then List.getD [aI s.r0,aI s.r1,aI s.r2,aI s.r3,aI (↑s.m.length:Int)] (i*1+j) AV.junk else aI (s.m.getD (i-5) (0:Int)) else List.getD [aI (↑s.st.length:Int)] ((i-((5:Nat)+s.m.length)+0)*1+j) AV.junk else aI (s.st.getD (i-((5:Nat)+s.m.length+1)) (0:Int)) else List.getD [aI s.pc] ((i-((5:Nat)+s.m.length+1+s.st.length)+0)*1+j) AV.junk)=aI (L.getD i 0) from (fun i hi j hj=>by
 subst hL
 obtain rfl:j=0:=by omega
 exact cat_if (A:=((([s.r0,s.r1,s.r2,s.r3,(s.m.length:Int)]++s.m)++[(s.st.length:Int)])++s.st)) (B:=[s.pc]) (by simp;omega) (fun _=>cat_if (A:=(([s.r0,s.r1,s.r2,s.r3,(s.m.length:Int)]++s.m)++[(s.st.length:Int)])) (B:=s.st) (by simp;omega) (fun _=>cat_if (A:=([s.r0,s.r1,s.r2,s.r3,(s.m.length:Int)]++s.m)) (B:=[(s.st.length:Int)]) (by simp;omega) (fun _=>cat_if (A:=[s.r0,s.r1,s.r2,s.r3,(s.m.length:Int)]) (B:=s.m) rfl (fun h=>five h) (fun _=>rfl)) (fun _=>sing (by omega))) (fun _=>rfl)) (fun _=>sing (by omega)))) (cj (rf (0:Nat)) (cj (show (5:Nat)+s.m.length+1+s.st.length+1=L.length from by rw [hL,intsL_len];omega) trivial)))))))) (by kernel_rfl)
theorem intsO (s:S8) (hm:s.m.length<1000000) (hst:s.st.length<1000000):PureC Try.prog 26 [.agg (s8R s)] (.own 0 0 1 0 (intsL s).length) [blkI (intsL s)]:=PureC.vc (in_o s _ rfl hm hst)
theorem tr9_true (b:Bool) (h:b=true):Vc (vcFn Try.prog false 27 [.bool b] [.b true] [] (.int .i64 (Wd.tI b)) []):=vc_by (cj h (cj (show (1:Int)=Wd.tI b from by rw [h];rfl) trivial)) (by kernel_rfl)
theorem tr9_false (b:Bool) (h:b=false):Vc (vcFn Try.prog false 27 [.bool b] [.b false] [] (.int .i64 (Wd.tI b)) []):=vc_by (cj h (cj (show (0:Int)=Wd.tI b from by rw [h];rfl) trivial)) (by kernel_rfl)
theorem tr9C (b:Bool):PureC Try.prog 27 [.bool b] (.int .i64 (Wd.tI b)) []:=by
 cases h:b with
 |true=>exact PureC.vc (tr9_true true rfl)
 |false=>exact PureC.vc (tr9_false false rfl)
theorem sN20 (c:Cf) (X:List Int) (k:Nat):X.length+8=(X++[(c.b.getD k default).pc,(c.b.getD k default).val,(c.b.getD k default).adr,(c.b.getD k default).frm,(c.b.getD k default).nxt,Wd.tI (c.b.getD k default).dn,Wd.tI (c.b.getD k default).kn,Wd.tI (c.b.getD k default).ft]).length:=by rw [List.length_append];rfl
theorem zN20 (c:Cf) {Z:Prop} (z:Z):(RF c.b.length (RR c.b.length 8 (fun i j=>rowL enC c.b i j) (RF c.r.length (RR c.r.length 1 (fun i j=>aI (c.r.getD i 0)) (RF c.e (RF (0:Nat) Z)))))):=⟨rfl,fun _ _ _ _=>rfl,rfl,fun _ _ _ _=>rfl,rfl,rfl,z⟩
theorem zN21 (c:Cf) {Z:Prop} (z:Z):(RF c.s.r0 (RF c.s.r1 (RF c.s.r2 (RF c.s.r3 (RF c.s.m.length (RR c.s.m.length 1 (fun i j=>aI (List.getD c.s.m i (0:Int))) (RF c.s.st.length (RR c.s.st.length 1 (fun i j=>aI (List.getD c.s.st i (0:Int))) (RF c.s.pc Z))))))))):=⟨rfl,rfl,rfl,rfl,rfl,fun _ _ _ _=>rfl,rfl,fun _ _ _ _=>rfl,rfl,z⟩
theorem ci_y (c:Cf) (X:List Int) (k:Nat) (hk:k<c.b.length) (hb:c.b.length<1000000) (hX:X.length<100000000):Vc (vcC Try.prog false (ntOf Try.prog 12) (lpC Try.prog 12 0) (ciS c X k) [.bd true, .cl [.bool (c.b.getD k default).dn] (.int .i64 (Wd.tI (c.b.getD k default).dn)) [], .cl [.bool (c.b.getD k default).kn] (.int .i64 (Wd.tI (c.b.getD k default).kn)) [], .cl [.bool (c.b.getD k default).ft] (.int .i64 (Wd.tI (c.b.getD k default).ft)) []] .nrm [(0,0)] (ciS c (X++enN (c.b.getD k default)) (k+1))):=vc_by (cj (dt ((k:Int)<(↑c.b.length:Int))) (cj (bi (k:Int) (↑c.b.length:Int)) (cj (rf ((c.b.getD k default).dn)) (cj (tr9C (c.b.getD k default).dn) (cj (rf ((c.b.getD k default).kn)) (cj (tr9C (c.b.getD k default).kn) (cj (rf ((c.b.getD k default).ft)) (cj (tr9C (c.b.getD k default).ft) (cj (ap X.length 8 8) (cj (i6 ((k:Int)+1)) (cj (sN20 c X k) (cj (show ∀ (i:Nat),i<X.length+8→ ∀ (j:Nat),j<1→(bif Nat.blt i X.length then aI (X.getD i 0) else List.getD [aI (c.b.getD k default).pc,aI (c.b.getD k default).val,aI (c.b.getD k default).adr,aI (c.b.getD k default).frm,aI (c.b.getD k default).nxt,aI (Wd.tI (c.b.getD k default).dn),aI (Wd.tI (c.b.getD k default).kn),aI (Wd.tI (c.b.getD k default).ft)] ((i-X.length+0)*1+j) AV.junk)=aI (List.getD (X++[(c.b.getD k default).pc,(c.b.getD k default).val,(c.b.getD k default).adr,(c.b.getD k default).frm,(c.b.getD k default).nxt,Wd.tI (c.b.getD k default).dn,Wd.tI (c.b.getD k default).kn,Wd.tI (c.b.getD k default).ft]) i (0:Int)) from (fun i hi j hj=>by obtain rfl:j=0:=(by omega);exact cat_if (A:=X) (B:=enN (c.b.getD k default)) rfl (fun _=>rfl) (fun h=>by obtain ⟨q,rfl⟩: ∃ q,i=X.length+q:=⟨i-X.length,by omega⟩;rw [Nat.add_sub_cancel_left];exact (match q,(show q<8 by omega) with |0,_=>rfl |1,_=>rfl |2,_=>rfl |3,_=>rfl |4,_=>rfl |5,_=>rfl |6,_=>rfl |7,_=>rfl)))) (zN21 c (zN20 c (cj (sN20 c X k) (cj (rf ((k:Int)+1)) trivial)))))))))))))))) (by kernel_rfl)
theorem ci_e (c:Cf) (X:List Int) (k:Nat) (hk: ¬k<c.b.length):Vc (vcC Try.prog false (ntOf Try.prog 12) (lpC Try.prog 12 0) (ciS c X k) [.bd false] (.ext 0) [(0,0)] (ciS c X k)):=vc_by (cj (df ((k:Int)<(↑c.b.length:Int))) (cj (rf X.length) (cj (rr X.length 1 fun i j=>aI (X.getD i 0)) (zN21 c (cj (rf c.b.length) (cj (rr c.b.length 8 fun i j=>rowL enC c.b i j) (cj (rf c.r.length) (cj (rr c.r.length 1 fun i j=>aI (c.r.getD i 0)) (cj (rf c.e) (cj (rf (0:Nat)) (cj (rf X.length) (cj (rf (k:Int)) trivial)))))))))))) (by kernel_rfl)
theorem ciK_len (c:Cf): ∀ k,(ciK c k).length=(intsL c.s).length+1+8*k
 |0=>by rw [ciK,List.length_append];rfl
 |k+1=>by rw [ciK,List.length_append,ciK_len c k];show _+8=_;omega
theorem ci_loop (c:Cf) (hb:c.b.length<1000000) (hm:c.s.m.length<1000000) (hst:c.s.st.length<1000000):Ok Try.prog (ntOf Try.prog 12) (.loop (lpC Try.prog 12 0)) (ciS c (ciK c 0) 0).st (.ext 0) (ciS c (ciK c c.b.length) c.b.length).st:=
 Ok.loop (P:=Try.prog) (nt:=ntOf Try.prog 12) (c:=lpC Try.prog 12 0) (F:=fun k=>ciS c (ciK c k) k) (m:=c.b.length) (x:= .ext 0) (J:=ciS c (ciK c c.b.length) c.b.length) (fun k hk=>Ok.vc (ci_y c (ciK c k) k hk hb (by rw [ciK_len,intsL_len];omega))) (Ok.vc (ci_e c _ _ (Nat.lt_irrefl _))) (by simp)
theorem cif (c:Cf) (L0 X L:List Int) (n:Nat) (hL:L=((X++[(c.r.length:Int)])++c.r)++[c.e]) (h7:PureC Try.prog 26 [.agg (s8R c.s)] (.own 0 0 1 0 L0.length) [blkI L0]) (h:Ok Try.prog (ntOf Try.prog 12) (.loop (lpC Try.prog 12 0)) (ciS c (L0++[(c.b.length:Int)]) 0).st (.ext 0) (ciS c X n).st) (hl0:L0.length<100000000) (hX:X.length<100000000) (hr:c.r.length<1000000):Vc (vcFn Try.prog false 12 [.agg (cfA c)] [.fv, .cl [.agg (s8R c.s)] (.own 0 0 1 0 L0.length) [blkI L0], .lp [(0,0)] (ciS c (L0++[(c.b.length:Int)]) 0) (.ext 0) (ciS c X n)] [] (lR L) []):=vc_by (zN21 c (cj h7 (cj (ap L0.length 1 8) (cj (pv (L0.length+1=(L0++[(↑c.b.length:Int)]).length)) (cj (show ∀ (i:Nat),i<L0.length+1→ ∀ (j:Nat),j<1→(bif Nat.blt i L0.length then aI (L0.getD i 0) else List.getD [aI (↑c.b.length:Int)] ((i-L0.length+0)*1+j) AV.junk)=aI (List.getD (L0++[(↑c.b.length:Int)]) i (0:Int)) from (fun i hi j hj=>by obtain rfl:j=0:=(by omega);exact cat_if (A:=L0) (B:=[(c.b.length:Int)]) (by simp) (fun _=>rfl) (fun h=>sing (by omega)))) (zN21 c (zN20 c (cj (pv (L0.length+1=(L0++[(↑c.b.length:Int)]).length)) (cj (rf (0:Int)) (cj h (cj (ap X.length 1 8) (cj (ap (X.length+1) c.r.length 8) (cj (ap (X.length+1+c.r.length) 1 8) (cj (show X.length+1+c.r.length+1=L.length from by rw [hL];simp;omega) (cj (show ∀ (i:Nat),i<X.length+1+c.r.length+1→ ∀ (j:Nat),j<1→(bif Nat.blt (i+0) (X.length+1+c.r.length) then bif Nat.blt (i+0) (X.length+1) then bif Nat.blt (i+0) X.length then aI (X.getD (i+0) (0:Int)) else List.getD [aI (↑c.r.length:Int)] ((i+0-X.length+0)*1+j) AV.junk else aI (c.r.getD (i+0-(X.length+1)) (0:Int)) else List.getD [aI c.e] ((i+0-(X.length+1+c.r.length)+0)*1+j) AV.junk)=aI (L.getD i 0) from (fun i hi j hj=>by
 subst hL
 obtain rfl:j=0:=by omega
 exact cat_if (A:=((X++[(c.r.length:Int)])++c.r)) (B:=[c.e]) (by simp only [List.length_append,List.length_singleton]) (fun _=>cat_if (A:=(X++[(c.r.length:Int)])) (B:=c.r) (by simp only [List.length_append,List.length_singleton]) (fun _=>cat_if (A:=X) (B:=[(c.r.length:Int)]) (by simp) (fun _=>rfl) (fun h=>sing (by omega))) (fun _=>rfl)) (fun h=>sing (by omega)))) trivial))))))))))))))) (by kernel_rfl)
theorem ciL_len (c:Cf):(ciL c).length=c.s.m.length+c.s.st.length+10+8*c.b.length+c.r.length:=by
 unfold ciL;rw [List.length_append,List.length_append,List.length_append,ciK_len,intsL_len];simp;omega
theorem ciC (c:Cf) (hb:c.b.length<1000000) (hm:c.s.m.length<1000000) (hst:c.s.st.length<1000000) (hr:c.r.length<1000000):PureC Try.prog 12 [.agg (cfA c)] (lR (ciL c)) []:=
 PureC.vc (cif c (intsL c.s) (ciK c c.b.length) (ciL c) _ rfl (intsO c.s hm hst) (ci_loop c hb hm hst) (by rw [intsL_len];omega) (by rw [ciK_len,intsL_len];omega) hr)
theorem same9 (a b:Cf) (A B:List Int) (x:Bool) (ha:PureC Try.prog 12 [.agg (cfA a)] (lR A) []) (hb:PureC Try.prog 12 [.agg (cfA b)] (lR B) []) (hs:PureC Try.prog 11 [lR A,lR B] (.bool x) []):Vc (vcFn Try.prog false 10 [.agg (cfA a), .agg (cfA b)] [.fv, .fv, .cl [.agg (cfA a)] (lR A) [], .cl [.agg (cfA b)] (lR B) [], .cl [lR A,lR B] (.bool x) []] [] (.bool x) []):=vc_by (cj (rf a.s.r0) (cj (rf a.s.r1) (cj (rf a.s.r2) (cj (rf a.s.r3) (cj (rf a.s.m.length) (cj (rr a.s.m.length 1 fun i j=>aI (List.getD a.s.m i (0:Int))) (cj (rf a.s.st.length) (cj (rr a.s.st.length 1 fun i j=>aI (List.getD a.s.st i (0:Int))) (cj (rf a.s.pc) (cj (rf a.b.length) (cj (rr a.b.length 8 fun i j=>rowL enC a.b i j) (cj (rf a.r.length) (cj (rr a.r.length 1 fun i j=>aI (a.r.getD i 0)) (cj (rf a.e) (cj ha (cj (rf b.s.r0) (cj (rf b.s.r1) (cj (rf b.s.r2) (cj (rf b.s.r3) (cj (rf b.s.m.length) (cj (rr b.s.m.length 1 fun i j=>aI (List.getD b.s.m i (0:Int))) (cj (rf b.s.st.length) (cj (rr b.s.st.length 1 fun i j=>aI (List.getD b.s.st i (0:Int))) (cj (rf b.s.pc) (cj (rf b.b.length) (cj (rr b.b.length 8 fun i j=>rowL enC b.b i j) (cj (rf b.r.length) (cj (rr b.r.length 1 fun i j=>aI (b.r.getD i 0)) (cj (rf b.e) (cj hb (cj (rf A.length) (cj (rr A.length 1 fun i j=>aI (A.getD i 0)) (cj (rf B.length) (cj (rr B.length 1 fun i j=>aI (B.getD i 0)) (cj hs (cj (rf x) trivial)))))))))))))))))))))))))))))))))))) (by kernel_rfl)
theorem rsameC (a b:Cf) (hb:a.b.length<1000000) (hm:a.s.m.length<1000000) (hst:a.s.st.length<1000000) (hr:a.r.length<1000000) (hb':b.b.length<1000000) (hm':b.s.m.length<1000000) (hst':b.s.st.length<1000000) (hr':b.r.length<1000000):PureC Try.prog 10 [.agg (cfA a), .agg (cfA b)] (.bool (decide (ciL a=ciL b))) []:=
 PureC.vc (same9 a b _ _ _ (ciC a hb hm hst hr) (ciC b hb' hm' hst' hr') (nsiC _ _ (by rw [ciL_len];omega)))
end
end Go.Proofs.Ytfjapapiappacaa.Px
namespace Go.Proofs.Ytfjapapiappacaa.Px
section
open Go.RowKit Go.Proofs.Ytfjapapiappacaa.Rx
def two2 (a b:AV) (i _:Nat):AV:=[a,b].getD i .junk
theorem catb {a b:List Int} (i:Nat):(bif Nat.blt i (0+a.length) then AV.int .u8 (a.getD (i-0) 0) else AV.int .u8 (b.getD (i-(0+a.length)) 0))= .int .u8 ((a++b).getD i 0):=by
 rw [Nat.zero_add]
 by_cases h:i<a.length
 ·have:Nat.blt i a.length=true:=by rw [Nat.blt_eq];exact h
  rw [this,cond_true]
  simp [List.getD,List.getElem?_append_left h]
 ·have:Nat.blt i a.length=false:=by
   cases hb:Nat.blt i a.length with
   |false=>rfl
   |true=>rw [Nat.blt_eq] at hb;omega
  rw [this,cond_false]
  simp [List.getD,List.getElem?_append_right (Nat.le_of_not_lt h)]
theorem catB (a b:List Int) (h0:0<a.length+b.length) (ha:a.length<100000000) (hb:b.length<100000000):Vc (vcFn Try.prog false 40 [.row 1 2 (two2 (bR a) (bR b))] [.it 3, .bd true, .bd false, .bd true, .bd false, .bd false, .bd false, .bd true, .it 3, .bd true, .sh, .bd true, .bd false] [(0,0)] (.own 0 0 1 0 (a++b).length) [blkB (a++b)]):=vc_by (cj (dt ((0:Int)<((2:Nat):Int))) (cj (pv ((0:Int)≤0∧(0:Int)<((2:Nat):Int))) (cj (i6 ((0:Int)+(a.length:Int))) (cj (df ((0:Int)+(a.length:Int)<0)) (cj (i6 ((0:Int)+1)) (cj (dt ((0:Int)+1<((2:Nat):Int))) (cj (pv ((0:Int)≤0+1∧(0:Int)+1<((2:Nat):Int))) (cj (i6 ((0:Int)+(a.length:Int)+(b.length:Int))) (cj (df ((0:Int)+(a.length:Int)+(b.length:Int)<0)) (cj (i6 ((0:Int)+1+1)) (cj (df ((0:Int)+1+1<((2:Nat):Int))) (cj (df ((0:Int)+(a.length:Int)+(b.length:Int)<0)) (cj (i6 ((0:Int)-0)) (cj (i6 ((0:Int)+(a.length:Int)+(b.length:Int)-((0:Int)-0))) (cj (dt ((0:Int)+(a.length:Int)+(b.length:Int)-((0:Int)-0)>0)) (cj (pv ((0:Int)=0∧(0:Int)=0)) (cj (pv ((0:Int)<0+(a.length:Int)+(b.length:Int)-((0:Int)-0)∧((0:Int)+(a.length:Int)+(b.length:Int)-((0:Int)-0))*((1:Nat):Int)≤140737488355328∧(0:Int)+(a.length:Int)+(b.length:Int)-((0:Int)-0)≤140737488355328)) (cj (pv ((0:Int)≤0∧(0:Int)≤(↑(nat_lit 0+a.length+b.length+nat_lit 0):Int))) (cj (dt ((0:Int)<((2:Nat):Int))) (cj (pv ((0:Int)≤0∧(0:Int)<((2:Nat):Int))) (cj (ap 0 a.length 1) (cj (i6 ((0:Int)+1)) (cj (dt ((0:Int)+1<((2:Nat):Int))) (cj (pv ((0:Int)≤0+1∧(0:Int)+1<((2:Nat):Int))) (cj (ap (0+a.length) b.length 1) (cj (i6 ((0:Int)+1+1)) (cj (df ((0:Int)+1+1<((2:Nat):Int))) (cj (pv ((0:Nat)+a.length+b.length=(a++b).length)) (cj (show ∀ (i:Nat),i<0+a.length+b.length→ ∀ (j:Nat),j<1→(bif Nat.blt i ((0:Nat)+a.length) then AV.int IntKind.u8 (a.getD (i-0) (0:Int)) else AV.int IntKind.u8 (b.getD (i-((0:Nat)+a.length)) (0:Int)))=AV.int IntKind.u8 (List.getD (a++b) i (0:Int)) from (fun i hi j hj=>catb i)) (cj (rf (0:Nat)) (cj (pv ((0:Nat)+a.length+b.length=(a++b).length)) trivial))))))))))))))))))))))))))))))) (by kernel_rfl)
theorem fin_vc (c:Cf) (b:Bool) (h:(c.e !=0)=b):Vc (vcFn Try.prog false 17 [.agg (cfA c)] [.fv, .bd b] [] (.bool b) []):=vc_by (cj h (cj (rf b) trivial)) (by kernel_rfl)
theorem finC (c:Cf):PureC Try.prog 17 [.agg (cfA c)] (.bool (c.e !=0)) []:=PureC.vc (fin_vc c _ rfl)
theorem beg0_vc (s:S8) (h1:PureC Try.prog 33 [lR s.m] (.own 0 0 1 0 s.m.length) [blkI s.m]) (h2:PureC Try.prog 33 [lR s.st] (.own 0 0 1 0 s.st.length) [blkI s.st]):Vc (vcFn Try.prog false 16 [.agg (s8R s)] [.cl [lR s.m] (.own 0 0 1 0 s.m.length) [blkI s.m], .cl [lR s.st] (.own 0 0 1 0 s.st.length) [blkI s.st]] [(0,2),(1,3)] (.agg (s8A s (.own 0 0 1 0 s.m.length) (.own 1 0 1 0 s.st.length)++[.nils, .nils, .int .i64 0])) [blkI s.m,blkI s.st]):=vc_by (cj (rf s.m.length) (cj (rr s.m.length 1 fun i j=>aI (s.m.getD i 0)) (cj h1 (cj (rf s.st.length) (cj (rr s.st.length 1 fun i j=>aI (s.st.getD i 0)) (cj h2 (cj (rf s.m.length) (cj (rr s.m.length 1 fun i j=>aI (s.m.getD i 0)) (cj (rf s.st.length) (cj (rr s.st.length 1 fun i j=>aI (s.st.getD i 0)) (cj (rf s.r0) (cj (rf s.r1) (cj (rf s.r2) (cj (rf s.r3) (cj (rf (0:Nat)) (cj (rf s.m.length) (cj (rf (0:Nat)) (cj (rf s.st.length) (cj (rf s.pc) (cj (rf (0:Int)) trivial)))))))))))))))))))) (by kernel_rfl)
def coS (c:Cf) (X:List Int) (k:Nat):Sm:=⟨[(1,cfP c),(3, .own 0 0 1 0 X.length),(25,enR c.b),(26, .int .i64 c.b.length),(27, .int .i64 k)],[(0,blkI X)],1⟩
theorem nbc_true (b:Bool) (h:b=true):Vc (vcFn Try.prog false 39 [.bool b] [.b true] [] (.int .i64 (Wd.tI b)) []):=vc_by (cj h (cj (show (1:Int)=Wd.tI b from by rw [h];rfl) trivial)) (by kernel_rfl)
theorem nbc_false (b:Bool) (h:b=false):Vc (vcFn Try.prog false 39 [.bool b] [.b false] [] (.int .i64 (Wd.tI b)) []):=vc_by (cj h (cj (show (0:Int)=Wd.tI b from by rw [h];rfl) trivial)) (by kernel_rfl)
theorem nbC (b:Bool):PureC Try.prog 39 [.bool b] (.int .i64 (Wd.tI b)) []:=by
 cases h:b with
 |true=>exact PureC.vc (nbc_true true rfl)
 |false=>exact PureC.vc (nbc_false false rfl)
theorem sC50 (c:Cf) (X:List Int) (k:Nat):X.length+8=(X++[(c.b.getD k default).pc,(c.b.getD k default).val,(c.b.getD k default).adr,(c.b.getD k default).frm,(c.b.getD k default).nxt,Wd.tI (c.b.getD k default).dn,Wd.tI (c.b.getD k default).kn,Wd.tI (c.b.getD k default).ft]).length:=by rw [List.length_append];rfl
theorem zC50 (c:Cf) {Z:Prop} (z:Z):(RF c.s.r0 (RF c.s.r1 (RF c.s.r2 (RF c.s.r3 (RF c.s.m.length (RR c.s.m.length 1 (fun i j=>aI (List.getD c.s.m i (0:Int))) (RF c.s.st.length (RR c.s.st.length 1 (fun i j=>aI (List.getD c.s.st i (0:Int))) (RF c.s.pc Z))))))))):=⟨rfl,rfl,rfl,rfl,rfl,fun _ _ _ _=>rfl,rfl,fun _ _ _ _=>rfl,rfl,z⟩
theorem co_y (c:Cf) (X:List Int) (k:Nat) (hk:k<c.b.length) (hb:c.b.length<1000000) (hX:X.length<100000000):Vc (vcC Try.prog false (ntOf Try.prog 22) (lpC Try.prog 22 0) (coS c X k) [.bd true, .cl [.bool (c.b.getD k default).dn] (.int .i64 (Wd.tI (c.b.getD k default).dn)) [], .cl [.bool (c.b.getD k default).kn] (.int .i64 (Wd.tI (c.b.getD k default).kn)) [], .cl [.bool (c.b.getD k default).ft] (.int .i64 (Wd.tI (c.b.getD k default).ft)) []] .nrm [(0,0)] (coS c (X++enN (c.b.getD k default)) (k+1))):=vc_by (cj (dt ((k:Int)<(↑c.b.length:Int))) (cj (bi (k:Int) (↑c.b.length:Int)) (cj (rf ((c.b.getD k default).dn)) (cj (nbC (c.b.getD k default).dn) (cj (rf ((c.b.getD k default).kn)) (cj (nbC (c.b.getD k default).kn) (cj (rf ((c.b.getD k default).ft)) (cj (nbC (c.b.getD k default).ft) (cj (ap X.length 8 8) (cj (i6 ((k:Int)+1)) (cj (sC50 c X k) (cj (show ∀ (i:Nat),i<X.length+8→ ∀ (j:Nat),j<1→(bif Nat.blt i X.length then aI (X.getD i 0) else List.getD [aI (c.b.getD k default).pc,aI (c.b.getD k default).val,aI (c.b.getD k default).adr,aI (c.b.getD k default).frm,aI (c.b.getD k default).nxt,aI (Wd.tI (c.b.getD k default).dn),aI (Wd.tI (c.b.getD k default).kn),aI (Wd.tI (c.b.getD k default).ft)] ((i-X.length+0)*1+j) AV.junk)=aI (List.getD (X++[(c.b.getD k default).pc,(c.b.getD k default).val,(c.b.getD k default).adr,(c.b.getD k default).frm,(c.b.getD k default).nxt,Wd.tI (c.b.getD k default).dn,Wd.tI (c.b.getD k default).kn,Wd.tI (c.b.getD k default).ft]) i (0:Int)) from (fun i hi j hj=>by obtain rfl:j=0:=(by omega);exact cat_if (A:=X) (B:=enN (c.b.getD k default)) rfl (fun _=>rfl) (fun h=>by obtain ⟨q,rfl⟩: ∃ q,i=X.length+q:=⟨i-X.length,by omega⟩;rw [Nat.add_sub_cancel_left];exact (match q,(show q<8 by omega) with |0,_=>rfl |1,_=>rfl |2,_=>rfl |3,_=>rfl |4,_=>rfl |5,_=>rfl |6,_=>rfl |7,_=>rfl)))) (zC50 c (cj (rf c.b.length) (cj (rr c.b.length 8 fun i j=>rowL enC c.b i j) (cj (rf c.r.length) (cj (rr c.r.length 1 fun i j=>aI (c.r.getD i 0)) (cj (rf c.e) (cj (rf (0:Nat)) (cj (sC50 c X k) (cj (rf c.b.length) (cj (rr c.b.length 8 fun i j=>rowL enC c.b i j) (cj (rf (↑c.b.length:Int)) (cj (rf ((k:Int)+1)) trivial)))))))))))))))))))))))) (by kernel_rfl)
theorem co_e (c:Cf) (X:List Int) (k:Nat) (hk: ¬k<c.b.length):Vc (vcC Try.prog false (ntOf Try.prog 22) (lpC Try.prog 22 0) (coS c X k) [.bd false] (.ext 0) [(0,0)] (coS c X k)):=vc_by (cj (df ((k:Int)<(↑c.b.length:Int))) (cj (rf X.length) (cj (rr X.length 1 fun i j=>aI (X.getD i 0)) (zC50 c (cj (rf c.b.length) (cj (rr c.b.length 8 fun i j=>rowL enC c.b i j) (cj (rf c.r.length) (cj (rr c.r.length 1 fun i j=>aI (c.r.getD i 0)) (cj (rf c.e) (cj (rf (0:Nat)) (cj (rf X.length) (cj (rf c.b.length) (cj (rr c.b.length 8 fun i j=>rowL enC c.b i j) (cj (rf (↑c.b.length:Int)) (cj (rf (k:Int)) trivial))))))))))))))) (by kernel_rfl)
def coK (c:Cf):Nat→List Int
 |0=>[(c.b.length:Int)]
 |k+1=>coK c k++enN (c.b.getD k default)
def coL (c:Cf):List Int:=((coK c c.b.length++[(c.r.length:Int)])++c.r)++[c.e]
theorem coK_len (c:Cf): ∀ k,(coK c k).length=1+8*k
 |0=>rfl
 |k+1=>by rw [coK,List.length_append,coK_len c k];show _+8=_;omega
theorem coL_len (c:Cf):(coL c).length=3+8*c.b.length+c.r.length:=by
 unfold coL;rw [List.length_append,List.length_append,List.length_append,coK_len];simp;omega
theorem ciK_co (c:Cf): ∀ k,ciK c k=intsL c.s++coK c k
 |0=>rfl
 |k+1=>by rw [ciK,coK,ciK_co c k,List.append_assoc]
theorem ciL_co (c:Cf):ciL c=intsL c.s++coL c:=by
 unfold ciL coL;rw [ciK_co];simp only [List.append_assoc]
theorem co_loop (c:Cf) (hb:c.b.length<1000000):Ok Try.prog (ntOf Try.prog 22) (.loop (lpC Try.prog 22 0)) (coS c (coK c 0) 0).st (.ext 0) (coS c (coK c c.b.length) c.b.length).st:=
 Ok.loop (P:=Try.prog) (nt:=ntOf Try.prog 22) (c:=lpC Try.prog 22 0) (F:=fun k=>coS c (coK c k) k) (m:=c.b.length) (x:= .ext 0) (J:=coS c (coK c c.b.length) c.b.length) (fun k hk=>Ok.vc (co_y c (coK c k) k hk hb (by rw [coK_len];omega))) (Ok.vc (co_e c _ _ (Nat.lt_irrefl _))) (by simp)
theorem code_vc (c:Cf) (X L A B:List Int) (n:Nat) (hL:L=((X++[(c.r.length:Int)])++c.r)++[c.e]) (h:Ok Try.prog (ntOf Try.prog 22) (.loop (lpC Try.prog 22 0)) (coS c [(c.b.length:Int)] 0).st (.ext 0) (coS c X n).st) (hA:PureC Try.prog 41 [.agg (s8R c.s)] (bR A) []) (hP:PureC Try.prog 42 [lR L] (bR B) []) (hC:PureC Try.prog 40 [.row 1 2 (two2 (bR A) (bR B))] (.own 0 0 1 0 (A++B).length) [blkB (A++B)]) (hb:c.b.length<1000000) (hX:X.length<100000000) (hr:c.r.length<1000000):Vc (vcFn Try.prog false 22 [.agg (cfA c)] [.fv, .lp [(0,0)] (coS c [(c.b.length:Int)] 0) (.ext 0) (coS c X n), .cl [.agg (s8R c.s)] (bR A) [], .cl [lR L] (bR B) [], .fz, .cl [.row 1 2 (two2 (bR A) (bR B))] (.own 0 0 1 0 (A++B).length) [blkB (A++B)]] [(0,4)] (.own 0 0 1 0 (A++B).length) [blkB (A++B)]):=vc_by (cj (i6 ((8:Int)*(↑c.b.length:Int))) (cj (i6 ((1:Int)+8*(↑c.b.length:Int))) (cj (i6 ((1:Int)+8*(↑c.b.length:Int)+1)) (cj (i6 ((1:Int)+8*(↑c.b.length:Int)+1+(↑c.r.length:Int))) (cj (i6 ((1:Int)+8*(↑c.b.length:Int)+1+(↑c.r.length:Int)+1)) (cj (pv ((0:Int)≤0∧(0:Int)≤1+8*(↑c.b.length:Int)+1+(↑c.r.length:Int)+1∧((1:Int)+8*(↑c.b.length:Int)+1+(↑c.r.length:Int)+1)*((8:Nat):Int)≤140737488355328∧(1:Int)+8*(↑c.b.length:Int)+1+(↑c.r.length:Int)+1≤140737488355328)) (cj (pv ((0:Nat)=0∧(0:Nat)=0∧(8:Nat)≤140737488355328∧(1:Nat)≤140737488355328)) (cj (rf (1:Nat)) (cj (show ∀ (i:Nat),i<1→ ∀ (j:Nat),j<1→(bif Nat.blt i (0:Nat) then List.getD [aI (0:Int)] j AV.junk else List.getD [aI (↑c.b.length:Int)] ((i-0+0)*1+j) AV.junk)=aI (List.getD [(↑c.b.length:Int)] i (0:Int)) from (fun i hi j hj=>match i,hi,j,hj with |0,_,0,_=>rfl)) (zC50 c (cj (rf c.b.length) (cj (rr c.b.length 8 fun i j=>rowL enC c.b i j) (cj (rf c.r.length) (cj (rr c.r.length 1 fun i j=>aI (c.r.getD i 0)) (cj (rf c.e) (cj (rf (0:Nat)) (cj (rf (1:Nat)) (cj (rf c.b.length) (cj (rr c.b.length 8 fun i j=>rowL enC c.b i j) (cj (rf (↑c.b.length:Int)) (cj (rf (0:Int)) (cj h (cj (ap X.length 1 8) (cj (ap (X.length+1) c.r.length 8) (cj (ap (X.length+1+c.r.length) 1 8) (zC50 c (cj hA (cj (show X.length+1+c.r.length+1=L.length from by rw [hL];simp;omega) (cj (show ∀ (i:Nat),i<X.length+1+c.r.length+1→ ∀ (j:Nat),j<1→(bif Nat.blt (i+0) (X.length+1+c.r.length) then bif Nat.blt (i+0) (X.length+1) then bif Nat.blt (i+0) X.length then aI (X.getD (i+0) (0:Int)) else List.getD [aI (↑c.r.length:Int)] ((i+0-X.length+0)*1+j) AV.junk else aI (c.r.getD (i+0-(X.length+1)) (0:Int)) else List.getD [aI c.e] ((i+0-(X.length+1+c.r.length)+0)*1+j) AV.junk)=aI (L.getD i 0) from (fun i hi j hj=>by
 subst hL
 obtain rfl:j=0:=by omega
 exact cat_if (A:=((X++[(c.r.length:Int)])++c.r)) (B:=[c.e]) (by simp only [List.length_append,List.length_singleton]) (fun _=>cat_if (A:=(X++[(c.r.length:Int)])) (B:=c.r) (by simp only [List.length_append,List.length_singleton]) (fun _=>cat_if (A:=X) (B:=[(c.r.length:Int)]) (by simp) (fun _=>rfl) (fun h=>sing (by omega))) (fun _=>rfl)) (fun h=>sing (by omega)))) (cj hP (cj (rf (2:Nat)) (cj (show ∀ (i:Nat),i<2→ ∀ (j:Nat),j<1→List.getD [AV.row (nat_lit 1) A.length fun (a a_1:Nat)=>AV.int IntKind.u8 (A.getD a 0),AV.row (nat_lit 1) B.length fun (a a_1:Nat)=>AV.int IntKind.u8 (B.getD a 0)] (i*1+j) AV.junk=two2 (AV.row (nat_lit 1) A.length fun (a a_1:Nat)=>AV.int IntKind.u8 (A.getD a 0)) (AV.row (nat_lit 1) B.length fun (a a_1:Nat)=>AV.int IntKind.u8 (B.getD a 0)) i j from (fun i hi j hj=>match i,hi,j,hj with |0,_,0,_=>rfl |1,_,0,_=>rfl)) (cj hC (cj (rf ((A++B).length)) (cj (rr ((A++B).length) 1 fun i j=>AV.int IntKind.u8 (List.getD (A++B) i (0:Int))) (cj (rf (0:Nat)) (cj (rf ((A++B).length)) trivial))))))))))))))))))))))))))))))))))))) (by kernel_rfl)
theorem codeO (c:Cf) (hA:PureC Try.prog 41 [.agg (s8R c.s)] (bR (Cd.putL (intsL c.s))) []) (hb:c.b.length<100000) (hr:c.r.length<100000) (hI:(Cd.putL (intsL c.s)).length<100000000) (hL:Cd.isI (coL c)):PureC Try.prog 22 [.agg (cfA c)] (.own 0 0 1 0 (Cd.putL (ciL c)).length) [blkB (Cd.putL (ciL c))]:=by
 have hP:=(putC (.row (coL c)) (by rw [coL_len];omega) hL).frozen
 have h2:=Cd.putL_len_le (coL c)
 rw [coL_len] at h2
 have hpos:0<(Cd.putL (intsL c.s)).length:=by
  have h:=Cd.putN_len c.s.r0
  have e:(Cd.putL (intsL c.s)).length=(Cd.putN c.s.r0).length+(Cd.putL (intsL c.s).tail).length:=by rw [←List.length_append];rfl
  split at h<;>omega
 have hC:=PureC.vc (catB (Cd.putL (intsL c.s)) (Cd.putL (coL c)) (by omega) hI (by omega))
 rw [ciL_co,Cd.putL_append]
 exact PureC.vc (code_vc c _ (coL c) _ _ c.b.length rfl (co_loop c (by omega)) hA hP hC (by omega) (by rw [coK_len];omega) (by omega))
end
end Go.Proofs.Ytfjapapiappacaa.Px
namespace Go.Proofs.Ytfjapapiappacaa.Px
section
open Go.RowKit Go.Proofs.Ytfjapapiappacaa.Rx
def stA (r0 r1 r2 r3:Int) (m:List Int) (sk:AV) (pc:Int):List AV:=[.int .i64 r0, .int .i64 r1, .int .i64 r2, .int .i64 r3, .row 1 m.length (rowI m),sk, .int .i64 pc]
def rptrA (cs:List AV):AV:= .rptr 7 (fun q=>cs.getD q .junk) 0
def oneI (n:Int):AV:= .row 1 1 fun i j=>[AV.int .i64 n].getD ((i+0)*1+j) .junk
def catF (r0 r1 r2 r3:Int) (m:List Int) (sk:AV) (n:Nat) (pc:Int):Nat→Nat→AV:=fun i j=>
 [AV.row 1 4 fun i k=>(stA r0 r1 r2 r3 m sk pc).getD (0+(i*1+k)) .junk,oneI m.length, .row 1 m.length (rowI m),oneI n,sk,oneI pc].getD (i*1+j) .junk
def catL (r0 r1 r2 r3:Int) (m:List Int) (st:List Int) (pc:Int):List (List Int):=[[r0,r1,r2,r3],[(m.length:Int)],m,[(st.length:Int)],st,[pc]]
def stL (r0 r1 r2 r3:Int) (m:List Int) (st:List Int) (pc:Int):List Int:=(catL r0 r1 r2 r3 m st pc).flatten
def stBox (cs:List AV):Nat×Blk:=(0,⟨0,false,27, .box cs⟩)
def cdI (cs:List AV):Sm:=⟨[(1, .bptr 0 0)],[stBox cs],1⟩
def cdZ (cs:List AV):Sm:=⟨[(1,rptrA cs)],[],0⟩
def cdJ (L:List Int):Sm:=⟨[(3, .own 0 0 1 0 L.length)],[(0,blkI L)],1⟩
theorem stL_len (r0 r1 r2 r3:Int) (m st:List Int) (pc:Int):(stL r0 r1 r2 r3 m st pc).length=m.length+st.length+7:=by
 simp [stL,catL];omega
theorem zC60 (r0:Int) (r1:Int) (r2:Int) (r3:Int) (m:List Int) (pc:Int) (st:List Int) {Z:Prop} (z:Z):(RF r0 (RF r1 (RF r2 (RF r3 (RF m.length (RR m.length 1 (fun i j=>aI (m.getD i 0)) (RF st.length (RR st.length 1 (fun i j=>aI (st.getD i 0)) (RF pc Z))))))))):=⟨rfl,rfl,rfl,rfl,rfl,fun _ _ _ _=>rfl,rfl,fun _ _ _ _=>rfl,rfl,z⟩
theorem cdz_r (r0 r1 r2 r3:Int) (m:List Int) (pc:Int) (st:List Int):Vc (vcZ 1 (cdI (stA r0 r1 r2 r3 m (.row 1 st.length (rowI st)) pc)) [] (cdZ (stA r0 r1 r2 r3 m (.row 1 st.length (rowI st)) pc))):=vc_by (zC60 r0 r1 r2 r3 m pc st trivial) (by kernel_rfl)
theorem cdr_r (r0 r1 r2 r3:Int) (m:List Int) (pc:Int) (st:List Int) (hl:(stL r0 r1 r2 r3 m st pc).length≤1000000):Vc (vcC Try.prog false (ntOf Try.prog 41) (subC Try.prog 41 [1,0]) (cdZ (stA r0 r1 r2 r3 m (.row 1 st.length (rowI st)) pc)) [.cl [.row 1 6 (catF r0 r1 r2 r3 m (.row 1 st.length (rowI st)) st.length pc)] (.own 0 0 1 0 (stL r0 r1 r2 r3 m st pc).length) [blkI (stL r0 r1 r2 r3 m st pc)]] .nrm [(0,4)] (cdJ (stL r0 r1 r2 r3 m st pc))):=vc_by (cj (rf (6:Nat)) (cj (rr 6 1 fun i j=>catF r0 r1 r2 r3 m (AV.row (1:Nat) st.length (rowI st)) st.length pc i j) (cj (show PureC Try.prog 61 [.row 1 6 (catF r0 r1 r2 r3 m (.row 1 st.length (rowI st)) st.length pc)] (.own 0 0 1 0 (stL r0 r1 r2 r3 m st pc).length) [blkI (stL r0 r1 r2 r3 m st pc)] from concatC (L:=catL r0 r1 r2 r3 m st pc) (f:=catF r0 r1 r2 r3 m (.row 1 st.length (rowI st)) st.length pc) (fun i hi=>match i,hi with
    |0,_=> .inr ⟨_,rfl,fun i hi=>match i,hi with |0,_=>rfl |1,_=>rfl |2,_=>rfl |3,_=>rfl⟩
    |1,_=> .inr ⟨_,rfl,fun i hi=>match i,hi with |0,_=>rfl⟩
    |2,_=> .row m
    |3,_=> .inr ⟨_,rfl,fun i hi=>match i,hi with |0,_=>rfl⟩
    |4,_=> .row st
    |5,_=> .inr ⟨_,rfl,fun i hi=>match i,hi with |0,_=>rfl⟩) (by show 0<(stL r0 r1 r2 r3 m st pc).length;rw [stL_len];omega) hl (by simp [catL])) (cj (rf ((r0::r1::r2::r3::(m.length:Int)::List.append._f [] PUnit.unit (List.flatten._f [m,[(st.length:Int)],st,[pc]] (List.rec ⟨[],PUnit.unit⟩ (fun (head:List Int) (tail:List (List Int)) (tail_ih:List Int×' List.below tail)=>⟨List.flatten._f (head::tail) tail_ih,tail_ih⟩) [[(st.length:Int)],st,[pc]]))).length)) (cj (rr ((r0::r1::r2::r3::(m.length:Int)::List.append._f [] PUnit.unit (List.flatten._f [m,[(st.length:Int)],st,[pc]] (List.rec ⟨[],PUnit.unit⟩ (fun (head:List Int) (tail:List (List Int)) (tail_ih:List Int×' List.below tail)=>⟨List.flatten._f (head::tail) tail_ih,tail_ih⟩) [[(st.length:Int)],st,[pc]]))).length) 1 fun i j=>aI (List.getD (r0::r1::r2::r3::(m.length:Int)::List.append._f [] PUnit.unit (List.flatten._f [m,[(st.length:Int)],st,[pc]] (List.rec ⟨[],PUnit.unit⟩ (fun (head:List Int) (tail:List (List Int)) (tail_ih:List Int×' List.below tail)=>⟨List.flatten._f (head::tail) tail_ih,tail_ih⟩) [[(st.length:Int)],st,[pc]]))) i (0:Int))) (cj (rf (0:Nat)) (cj (rf ((r0::r1::r2::r3::(m.length:Int)::List.append._f [] PUnit.unit (List.flatten._f [m,[(st.length:Int)],st,[pc]] (List.rec ⟨[],PUnit.unit⟩ (fun (head:List Int) (tail:List (List Int)) (tail_ih:List Int×' List.below tail)=>⟨List.flatten._f (head::tail) tail_ih,tail_ih⟩) [[(st.length:Int)],st,[pc]]))).length)) trivial))))))) (by kernel_rfl)
theorem cdf_r (r0 r1 r2 r3:Int) (m:List Int) (pc:Int) (st:List Int) (hl:(stL r0 r1 r2 r3 m st pc).length≤1000000) (hi:Cd.isI (stL r0 r1 r2 r3 m st pc)):Vc (vcFn Try.prog false 41 [.agg (stA r0 r1 r2 r3 m (.row 1 st.length (rowI st)) pc)] [.le [] ⟨[(0, .agg (stA r0 r1 r2 r3 m (.row 1 st.length (rowI st)) pc))],[],0⟩, .sr [(0,0)] (cdI (stA r0 r1 r2 r3 m (.row 1 st.length (rowI st)) pc)) .nrm (cdJ (stL r0 r1 r2 r3 m st pc)), .cl [.row 1 (stL r0 r1 r2 r3 m st pc).length (rowI (stL r0 r1 r2 r3 m st pc))] (.own 0 0 1 0 (Cd.putL (stL r0 r1 r2 r3 m st pc)).length) [blkB (Cd.putL (stL r0 r1 r2 r3 m st pc))]] [(0,1)] (.own 0 0 1 0 (Cd.putL (stL r0 r1 r2 r3 m st pc)).length) [blkB (Cd.putL (stL r0 r1 r2 r3 m st pc))]):=vc_by (zC60 r0 r1 r2 r3 m pc st (zC60 r0 r1 r2 r3 m pc st (cj (Ok.freeze (cdz_r r0 r1 r2 r3 m pc st) (Ok.vc (cdr_r r0 r1 r2 r3 m pc st hl))) (cj (rf ((r0::r1::r2::r3::(m.length:Int)::List.append._f [] PUnit.unit (List.flatten._f [m,[(st.length:Int)],st,[pc]] (List.rec ⟨[],PUnit.unit⟩ (fun (head:List Int) (tail:List (List Int)) (tail_ih:List Int×' List.below tail)=>⟨List.flatten._f (head::tail) tail_ih,tail_ih⟩) [[(st.length:Int)],st,[pc]]))).length)) (cj (rr ((r0::r1::r2::r3::(m.length:Int)::List.append._f [] PUnit.unit (List.flatten._f [m,[(st.length:Int)],st,[pc]] (List.rec ⟨[],PUnit.unit⟩ (fun (head:List Int) (tail:List (List Int)) (tail_ih:List Int×' List.below tail)=>⟨List.flatten._f (head::tail) tail_ih,tail_ih⟩) [[(st.length:Int)],st,[pc]]))).length) 1 fun i j=>aI (List.getD (r0::r1::r2::r3::(m.length:Int)::List.append._f [] PUnit.unit (List.flatten._f [m,[(st.length:Int)],st,[pc]] (List.rec ⟨[],PUnit.unit⟩ (fun (head:List Int) (tail:List (List Int)) (tail_ih:List Int×' List.below tail)=>⟨List.flatten._f (head::tail) tail_ih,tail_ih⟩) [[(st.length:Int)],st,[pc]]))) i (0:Int))) (cj (show PureC Try.prog 42 [.row 1 (stL r0 r1 r2 r3 m st pc).length (rowI (stL r0 r1 r2 r3 m st pc))] (.own 0 0 1 0 (Cd.putL (stL r0 r1 r2 r3 m st pc)).length) [blkB (Cd.putL (stL r0 r1 r2 r3 m st pc))] from putC (.row _) hl hi) (cj (rf ((Cd.putL (r0::r1::r2::r3::(m.length:Int)::List.append._f [] PUnit.unit (List.flatten._f [m,[(st.length:Int)],st,[pc]] (List.rec ⟨[],PUnit.unit⟩ (fun (head:List Int) (tail:List (List Int)) (tail_ih:List Int×' List.below tail)=>⟨List.flatten._f (head::tail) tail_ih,tail_ih⟩) [[(st.length:Int)],st,[pc]])))).length)) (cj (rr ((Cd.putL (r0::r1::r2::r3::(m.length:Int)::List.append._f [] PUnit.unit (List.flatten._f [m,[(st.length:Int)],st,[pc]] (List.rec ⟨[],PUnit.unit⟩ (fun (head:List Int) (tail:List (List Int)) (tail_ih:List Int×' List.below tail)=>⟨List.flatten._f (head::tail) tail_ih,tail_ih⟩) [[(st.length:Int)],st,[pc]])))).length) 1 fun i j=>AV.int IntKind.u8 (List.getD (Cd.putL (r0::r1::r2::r3::(m.length:Int)::List.append._f [] PUnit.unit (List.flatten._f [m,[(st.length:Int)],st,[pc]] (List.rec ⟨[],PUnit.unit⟩ (fun (head:List Int) (tail:List (List Int)) (tail_ih:List Int×' List.below tail)=>⟨List.flatten._f (head::tail) tail_ih,tail_ih⟩) [[(st.length:Int)],st,[pc]])))) i (0:Int))) (cj (rf (0:Nat)) (cj (rf ((Cd.putL (r0::r1::r2::r3::(m.length:Int)::List.append._f [] PUnit.unit (List.flatten._f [m,[(st.length:Int)],st,[pc]] (List.rec ⟨[],PUnit.unit⟩ (fun (head:List Int) (tail:List (List Int)) (tail_ih:List Int×' List.below tail)=>⟨List.flatten._f (head::tail) tail_ih,tail_ih⟩) [[(st.length:Int)],st,[pc]])))).length)) trivial)))))))))) (by kernel_rfl)
theorem codeC_r (r0 r1 r2 r3:Int) (m:List Int) (pc:Int) (st:List Int) (hl:(stL r0 r1 r2 r3 m st pc).length≤1000000) (hi:Cd.isI (stL r0 r1 r2 r3 m st pc)):PureC Try.prog 41 [.agg (stA r0 r1 r2 r3 m (.row 1 st.length (rowI st)) pc)] (.own 0 0 1 0 (Cd.putL (stL r0 r1 r2 r3 m st pc)).length) [blkB (Cd.putL (stL r0 r1 r2 r3 m st pc))]:=PureC.vc (cdf_r r0 r1 r2 r3 m pc st hl hi)
theorem stL_ints (s:S8):stL s.r0 s.r1 s.r2 s.r3 s.m s.st s.pc=intsL s:=by simp [stL,catL,intsL]
theorem acodeO (s:S8) (hm:s.m.length<100000) (ht:s.st.length<100000) (hi:Cd.isI (intsL s)):PureC Try.prog 41 [.agg (s8R s)] (.own 0 0 1 0 (Cd.putL (intsL s)).length) [blkB (Cd.putL (intsL s))]:=by
 have h:=codeC_r s.r0 s.r1 s.r2 s.r3 s.m s.pc s.st
 rw [stL_ints] at h
 exact h (by rw [intsL_len];omega) hi
theorem confCode (c:Cf) (hb:c.b.length<100000) (hr:c.r.length<100000) (hm:c.s.m.length<100000) (ht:c.s.st.length<100000) (hi:Cd.isI (ciL c)):PureC Try.prog 22 [.agg (cfA c)] (.own 0 0 1 0 (Cd.putL (ciL c)).length) [blkB (Cd.putL (ciL c))]:=by
 rw [ciL_co] at hi
 have h1:Cd.isI (intsL c.s):=fun x hx=>hi x (List.mem_append_left _ hx)
 have h2:Cd.isI (coL c):=fun x hx=>hi x (List.mem_append_right _ hx)
 have h3:=Cd.putL_len_le (intsL c.s)
 rw [intsL_len] at h3
 exact codeO c (acodeO c.s hm ht h1).frozen hb hr (by omega) h2
theorem confCodeF (c:Cf) (hb:c.b.length<100000) (hr:c.r.length<100000) (hm:c.s.m.length<100000) (ht:c.s.st.length<100000) (hi:Cd.isI (ciL c)):PureC Try.prog 22 [.agg (cfA c)] (bR (Cd.putL (ciL c))) []:=(confCode c hb hr hm ht hi).frozen
end
end Go.Proofs.Ytfjapapiappacaa.Px
namespace Go.Proofs.Ytfjapapiappacaa.Px
section
open Go.RowKit Go.Proofs.Ytfjapapiappacaa.Rx
theorem numOf_inj: ∀ (n:Nat) (a b:List Int),a.length=n→b.length=n→Cd.isB a→Cd.isB b→Cd.numOf a=Cd.numOf b→a=b
 |0,a,b,ha,hb,_,_,_=>by rw [List.length_eq_zero_iff.1 ha,List.length_eq_zero_iff.1 hb]
 |n+1,a,b,ha,hb,hA,hB,h=>by
  rcases List.eq_nil_or_concat a with rfl |⟨a',x,rfl⟩
  ·cases ha
  rcases List.eq_nil_or_concat b with rfl |⟨b',y,rfl⟩
  ·cases hb
  simp only [List.concat_eq_append] at*
  rw [Cd.numOf_snoc,Cd.numOf_snoc] at h
  have hx:=hA x (by simp)
  have hy:=hB y (by simp)
  have h1:x=y:=by omega
  have h2:Cd.numOf a'=Cd.numOf b':=by omega
  rw [h1,numOf_inj n a' b' (by simpa using ha) (by simpa using hb) (fun z hz=>hA z (by simp [hz])) (fun z hz=>hB z (by simp [hz])) h2]
theorem fst_back {b:List Int} (hB:Cd.isB b) {n:Int} {k:Nat} (h:Cd.fst1 b=some (n,k)):b=Cd.putN n++b.drop k:=by
 cases b with
 |nil=>cases h
 |cons x r=>
  have hx:=hB x (by simp)
  have h:(if x=255 then (if r.length<8 then none else if Cd.nrB (Cd.toI (Cd.numOf (r.take 8)))=true then none else some (Cd.toI (Cd.numOf (r.take 8)),9)) else some (x-1,1):Option (Int×Nat))=some (n,k):=h
  split at h
  ·rename_i h255
   split at h
   ·cases h
   ·rename_i hr
    split at h
    ·cases h
    ·rename_i hn
     cases h
     have hn':Cd.nrB (Cd.toI (Cd.numOf (r.take 8)))=false:=by simpa using hn
     have hl:(r.take 8).length=8:=by rw [List.length_take];omega
     have hBr:Cd.isB (r.take 8):=fun z hz=>hB z (by simp [List.mem_of_mem_take hz])
     have hbd:=Cd.numOf_bd hBr
     rw [hl] at hbd
     have he:Cd.eight (Cd.toI (Cd.numOf (r.take 8)))=r.take 8:=by
      refine numOf_inj 8 _ _ (Cd.eight_len _) hl (Cd.eight_isB _) hBr ?_
      rw [Cd.numOf_eight]
      unfold Cd.toI
      have:(256:Int)^8=18446744073709551616:=by decide
      split<;>omega
     unfold Cd.putN
     rw [hn',if_neg (by decide),he,h255]
     show _=255::(r.take 8++r.drop 8)
     rw [List.take_append_drop]
  ·rename_i h255
   cases h
   have:Cd.nrB (x-1)=true:=Cd.nrB_iff.2 (by omega)
   unfold Cd.putN
   rw [this,if_pos rfl,show x-1+1=x by omega]
   rfl
theorem get_back: ∀ (n:Nat) {b l:List Int},b.length≤n→Cd.isB b→Cd.getL b=some l→Cd.putL l=b∧Cd.isI l
 |n,[],l,hn,hB,h=>by
  rw [Cd.getL_nil] at h;cases h;exact ⟨rfl,fun _ hx=>by cases hx⟩
 |0,_::_,_,hn,_,_=>by simp at hn
 |n+1,x::r,l,hn,hB,h=>by
  cases hf:Cd.fst1 (x::r) with
  |none=>rw [Cd.getL_none (by simp) hf] at h;cases h
  |some q=>
   obtain ⟨m,k⟩:=q
   obtain ⟨k1,k2,k3⟩:=Cd.fst1_size hf
   have hb:=fst_back hB hf
   rw [Cd.getL_step hf] at h
   obtain ⟨l',h1,rfl⟩:=Option.map_eq_some_iff.1 h
   have hBd:Cd.isB ((x::r).drop k):=fun z hz=>hB z (List.mem_of_mem_drop hz)
   have ih:=get_back n (b:=(x::r).drop k) (by rw [List.length_drop];omega) hBd h1
   refine ⟨?_,fun z hz=> ?_⟩
   ·show Cd.putN m++Cd.putL l'=_
    rw [ih.1];exact hb.symm
   ·rcases List.mem_cons.1 hz with rfl |hz
    ·have hf:(if x=255 then (if r.length<8 then none else if Cd.nrB (Cd.toI (Cd.numOf (r.take 8)))=true then none else some (Cd.toI (Cd.numOf (r.take 8)),9)) else some (x-1,1):Option (Int×Nat))=some (z,k):=hf
     have hx:=hB x (by simp)
     split at hf
     ·split at hf
      ·cases hf
      ·rename_i hr
       split at hf
       ·cases hf
       ·cases hf
        have hl:(r.take 8).length=8:=by rw [List.length_take];omega
        have hbd:=Cd.numOf_bd (ys:=r.take 8) (fun z hz=>hB z (by simp [List.mem_of_mem_take hz]))
        rw [hl] at hbd
        have:(256:Int)^8=18446744073709551616:=by decide
        unfold Cd.toI
        split<;>omega
     ·cases hf;omega
    ·exact ih.2 z hz
def flE (b:List En):List Int:=b.flatMap enN
theorem coK_fl (c:Cf): ∀ k,k≤c.b.length→coK c k=(c.b.length:Int)::flE (c.b.take k)
 |0,_=>rfl
 |k+1,h=>by
  have e:c.b.take (k+1)=c.b.take k++[c.b.getD k default]:=by
   rw [List.take_add_one,List.getD_eq_getElem?_getD,List.getElem?_eq_getElem (by omega)];rfl
  rw [coK,coK_fl c k (by omega),e]
  unfold flE
  simp
theorem coL_fl (c:Cf):coL c=(c.b.length:Int)::(flE c.b++((c.r.length:Int)::(c.r++[c.e]))):=by
 unfold coL
 rw [coK_fl c _ (Nat.le_refl _),List.take_length]
 simp
theorem ciL_fl (c:Cf):ciL c=c.s.r0::c.s.r1::c.s.r2::c.s.r3::(c.s.m.length:Int)::(c.s.m++((c.s.st.length:Int)::(c.s.st++(c.s.pc::(c.b.length:Int)::(flE c.b++((c.r.length:Int)::(c.r++[c.e]))))))):=by
 rw [ciL_co,coL_fl]
 simp [intsL]
theorem ns_read (m t:List Int):(Rs.mk ((m.length:Int)::(m++t)) false).ns=⟨t,false⟩∧(Rs.mk ((m.length:Int)::(m++t)) false).nl=m:=by
 have ho:cnO 1 (m.length:Int) (m++t).length=true:=by
  unfold cnO
  rw [Bool.and_eq_true,decide_eq_true_eq,decide_eq_true_eq,List.length_append,Nat.div_one]
  omega
 have hc:(Rs.mk ((m.length:Int)::(m++t)) false).cn 1=m.length:=by
  unfold Rs.cn
  show (if cnO 1 (m.length:Int) (m++t).length=true then Int.toNat (m.length:Int) else 0)=m.length
  rw [if_pos ho];rfl
 unfold Rs.ns Rs.nl
 rw [hc]
 constructor
 ·show Rs.mk ((m++t).drop m.length) (false|| !(cnO 1 (m.length:Int) (m++t).length))=_
  rw [ho,List.drop_left];rfl
 ·show (m++t).take m.length=m
  rw [List.take_left]
theorem en_read (e:En) (t:List Int):(Rs.mk (enN e++t) false).en=e∧(Rs.mk (enN e++t) false).es=⟨t,false⟩:=by
 obtain ⟨a,b,c,d,n,f,g,h⟩:=e
 cases f<;>cases g<;>cases h<;>exact ⟨rfl,rfl⟩
theorem ek_es (s:Rs): ∀ k,s.ek (k+1)=s.es.ek k
 |0=>rfl
 |k+1=>by
  show (s.ek (k+1)).es=(s.es.ek k).es
  rw [ek_es s k]
theorem el_es (s:Rs): ∀ k,s.el (k+1)=s.en::s.es.el k
 |0=>rfl
 |k+1=>by
  show s.el (k+1)++[(s.ek (k+1)).en]=s.en::(s.es.el k++[(s.es.ek k).en])
  rw [el_es s k,ek_es s k];rfl
theorem ek_read: ∀ (b:List En) (t:List Int),(Rs.mk (flE b++t) false).ek b.length=⟨t,false⟩∧(Rs.mk (flE b++t) false).el b.length=b
 | [],t=>⟨rfl,rfl⟩
 |e::b,t=>by
  have h:=en_read e (flE b++t)
  have e1:flE (e::b)++t=enN e++(flE b++t):=by unfold flE;rw [List.flatMap_cons,List.append_assoc]
  rw [List.length_cons,ek_es,el_es,e1,h.1,h.2]
  have ih:=ek_read b t
  exact ⟨ih.1,by rw [ih.2]⟩
theorem flE_len: ∀ b:List En,(flE b).length=8*b.length
 | []=>rfl
 |e::b=>by
  have h:=flE_len b
  unfold flE at h ⊢
  rw [List.flatMap_cons,List.length_append,h,List.length_cons]
  show 8+_=_
  omega
theorem bs_read (b:List En) (t:List Int):(Rs.mk ((b.length:Int)::(flE b++t)) false).bs=⟨t,false⟩∧(Rs.mk ((b.length:Int)::(flE b++t)) false).bl=b:=by
 have ho:cnO 8 (b.length:Int) (flE b++t).length=true:=by
  unfold cnO
  rw [Bool.and_eq_true,decide_eq_true_eq,decide_eq_true_eq,List.length_append,flE_len]
  omega
 have hc:(Rs.mk ((b.length:Int)::(flE b++t)) false).cn 8=b.length:=by
  unfold Rs.cn
  show (if cnO 8 (b.length:Int) (flE b++t).length=true then Int.toNat (b.length:Int) else 0)=b.length
  rw [if_pos ho];rfl
 have ht:(Rs.mk ((b.length:Int)::(flE b++t)) false).ct 8=⟨flE b++t,false⟩:=by
  show Rs.mk (flE b++t) (false|| !(cnO 8 (b.length:Int) (flE b++t).length))=_
  rw [ho];rfl
 unfold Rs.bs Rs.bl
 rw [hc,ht]
 exact ek_read b t
theorem par_ci (c:Cf):parL (ciL c)=some c:=by
 have hL:=ciL_fl c
 have h1:=ns_read c.s.m ((c.s.st.length:Int)::(c.s.st++(c.s.pc::(c.b.length:Int)::(flE c.b++((c.r.length:Int)::(c.r++[c.e]))))))
 have h2:=ns_read c.s.st (c.s.pc::(c.b.length:Int)::(flE c.b++((c.r.length:Int)::(c.r++[c.e]))))
 have h3:=bs_read c.b ((c.r.length:Int)::(c.r++[c.e]))
 have h4:=ns_read c.r [c.e]
 have hx:(Rs.mk (ciL c) false).x4=⟨(c.s.m.length:Int)::(c.s.m++((c.s.st.length:Int)::(c.s.st++(c.s.pc::(c.b.length:Int)::(flE c.b++((c.r.length:Int)::(c.r++[c.e]))))))),false⟩:=by rw [hL];rfl
 have hs:(Rs.mk (ciL c) false).ss=⟨(c.b.length:Int)::(flE c.b++((c.r.length:Int)::(c.r++[c.e]))),false⟩:=by
  unfold Rs.ss
  rw [hx,h1.1,h2.1];rfl
 have hst:(Rs.mk (ciL c) false).st=c.s:=by
  unfold Rs.st
  rw [hx,h1.1,h1.2,h2.1,h2.2,hL];rfl
 have hcs:(Rs.mk (ciL c) false).cs=⟨[],false⟩:=by
  unfold Rs.cs
  rw [hs,h3.1,h4.1];rfl
 have hcf:(Rs.mk (ciL c) false).cf=c:=by
  unfold Rs.cf
  rw [hst,hs,h3.1,h3.2,h4.1,h4.2];rfl
 unfold parL
 rw [hcs,hcf]
 rfl
theorem nx_back {s:Rs} (h:s.nx.w=false):s.w=false∧s.l=s.hd::s.nx.l:=by
 obtain ⟨l,w⟩:=s
 have h:(w||l.isEmpty)=false:=h
 cases l with
 |nil=>cases w<;>cases h
 |cons x l=>exact ⟨by simpa using h,rfl⟩
theorem or_back {a b:Bool} (h:(a||b)=false):a=false∧b=false:=by cases a<;>cases b<;>first |exact ⟨rfl,rfl⟩|cases h
theorem fl_back {s:Rs} (h:s.fl.w=false):s.w=false∧s.l=Wd.tI (flB s.hd)::s.fl.l:=by
 obtain ⟨h1,h2⟩:=or_back (a:=s.w||s.l.isEmpty) h
 have h3:=nx_back (s:=s) h1
 refine ⟨h3.1,h3.2.trans ?_⟩
 have ho:flO s.hd=true:=by simpa using h2
 have:Wd.tI (flB s.hd)=s.hd:=by
  unfold flO at ho
  rw [Bool.or_eq_true,decide_eq_true_eq,decide_eq_true_eq] at ho
  rcases ho with e |e<;>rw [e]<;>rfl
 rw [this];rfl
theorem ct_back {s:Rs} {k:Nat} (h:(s.ct k).w=false):s.w=false∧s.l=((s.cn k:Nat):Int)::(s.ct k).l∧s.cn k≤s.l.tail.length/k:=by
 obtain ⟨h1,h2⟩:=or_back (a:=s.w||s.l.isEmpty) h
 have h3:=nx_back (s:=s) h1
 have ho:cnO k s.hd s.l.tail.length=true:=by simpa using h2
 have hc:s.cn k=s.hd.toNat:=by unfold Rs.cn;rw [if_pos ho]
 unfold cnO at ho
 rw [Bool.and_eq_true,decide_eq_true_eq,decide_eq_true_eq] at ho
 refine ⟨h3.1, ?_,by rw [hc];omega⟩
 rw [hc,Int.toNat_of_nonneg ho.1]
 exact h3.2
theorem ns_back {s:Rs} (h:s.ns.w=false):s.w=false∧s.l=(s.nl.length:Int)::(s.nl++s.ns.l):=by
 obtain ⟨h1,h2,h3⟩:=ct_back (s:=s) (k:=1) h
 have hl:s.nl.length=s.cn 1:=by unfold Rs.nl;rw [List.length_take];omega
 refine ⟨h1, ?_⟩
 rw [hl]
 refine h2.trans ?_
 show _=_::(s.l.tail.take (s.cn 1)++s.l.tail.drop (s.cn 1))
 rw [List.take_append_drop];rfl
theorem es_back {s:Rs} (h:s.es.w=false):s.w=false∧s.l=enN s.en++s.es.l:=by
 have h8:=fl_back (s:=s.x5.fl.fl) h
 have h7:=fl_back (s:=s.x5.fl) h8.1
 have h6:=fl_back (s:=s.x5) h7.1
 have h5:=nx_back (s:=s.x4) h6.1
 have h4:=nx_back (s:=s.nx.nx.nx) h5.1
 have h3:=nx_back (s:=s.nx.nx) h4.1
 have h2:=nx_back (s:=s.nx) h3.1
 have h1:=nx_back (s:=s) h2.1
 refine ⟨h1.1, ?_⟩
 rw [h1.2,h2.2,h3.2,h4.2]
 show _::_::_::_::s.x4.l=_
 rw [h5.2]
 show _::_::_::_::_::s.x5.l=_
 rw [h6.2,h7.2,h8.2]
 rfl
theorem ek_back: ∀ (k:Nat) {s:Rs},(s.ek k).w=false→s.w=false∧s.l=flE (s.el k)++(s.ek k).l
 |0,s,h=>⟨h,rfl⟩
 |k+1,s,h=>by
  rw [ek_es] at h
  have ih:=ek_back k h
  have h1:=es_back ih.1
  refine ⟨h1.1, ?_⟩
  rw [ek_es,el_es]
  unfold flE at ih ⊢
  rw [List.flatMap_cons,List.append_assoc, ←ih.2]
  exact h1.2
theorem bs_back {s:Rs} (h:s.bs.w=false):s.w=false∧s.l=(s.bl.length:Int)::(flE s.bl++s.bs.l):=by
 have h1:=ek_back (s.cn 8) (s:=s.ct 8) h
 obtain ⟨h2,h3, -⟩:=ct_back (s:=s) (k:=8) h1.1
 refine ⟨h2, ?_⟩
 have:s.bl.length=s.cn 8:=el_len _ _
 rw [this,h3,h1.2]
 rfl
theorem ci_par {l:List Int} {c:Cf} (h:parL l=some c):ciL c=l:=by
 unfold parL at h
 split at h
 ·rename_i hc
  obtain ⟨hw,hl⟩:=hc
  cases h
  have h9:=nx_back (s:=(Rs.mk l false).ss.bs.ns) hw
  have h8:=ns_back (s:=(Rs.mk l false).ss.bs) h9.1
  have h7:=bs_back (s:=(Rs.mk l false).ss) h8.1
  have h6:=nx_back (s:=(Rs.mk l false).x4.ns.ns) h7.1
  have h5:=ns_back (s:=(Rs.mk l false).x4.ns) h6.1
  have h4:=ns_back (s:=(Rs.mk l false).x4) h5.1
  have h3:=nx_back (s:=(Rs.mk l false).nx.nx.nx) h4.1
  have h2:=nx_back (s:=(Rs.mk l false).nx.nx) h3.1
  have h1:=nx_back (s:=(Rs.mk l false).nx) h2.1
  have h0:=nx_back (s:=Rs.mk l false) h1.1
  rw [ciL_fl]
  have e0:l=(Rs.mk l false).hd::(Rs.mk l false).nx.l:=h0.2
  have e9:(Rs.mk l false).cs.l=[]:=List.length_eq_zero_iff.1 hl
  have e9':(Rs.mk l false).ss.bs.ns.nx.l=[]:=e9
  have e3:(Rs.mk l false).nx.nx.nx.l=_::(Rs.mk l false).x4.l:=h3.2
  have e6:(Rs.mk l false).x4.ns.ns.l=_::(Rs.mk l false).ss.l:=h6.2
  refine Eq.trans ?_ e0.symm
  rw [h1.2,h2.2,e3,h4.2,h5.2,e6,h7.2,h8.2,h9.2,e9']
  rfl
 ·cases h
theorem parB_back {b:List Int} {c:Cf} (hB:Cd.isB b) (h:parB b=some c):Cd.putL (ciL c)=b∧Cd.isI (ciL c):=by
 obtain ⟨l,h1,h2⟩:=Option.bind_eq_some_iff.1 h
 rw [ci_par h2]
 exact get_back _ (Nat.le_refl _) hB h1
theorem parB_code {c:Cf} (h:Cd.isI (ciL c)):parB (Cd.putL (ciL c))=some c:=by
 unfold parB
 rw [Cd.get_put h]
 exact par_ci c
end
end Go.Proofs.Ytfjapapiappacaa.Px
namespace Go.Proofs.Ytfjapapiappacaa.Px
section
open Go.RowKit Go.Proofs.Ytfjapapiappacaa.Rx
def cW:Cf:=⟨⟨0,0,0,0,[4],[],0⟩,[],[],0⟩
def bW:List Int:=[1,1,1,1,2,5,1,1,1,1,1]
def lW:List Int:=[0,0,0,0,1,4,0,0,0,0,0]
def hW:Cf:=⟨⟨0,0,0,0,[],[],0⟩,[],[],1⟩
def bgA (s:S8):List AV:=s8R s++[.nils, .nils, .int .i64 0]
theorem begF (s:S8) (hm:s.m.length<1000000) (ht:s.st.length<1000000):PureC Try.prog 16 [.agg (s8R s)] (.agg (bgA s)) []:=(PureC.vc (beg0_vc s (cloneC (.row s.m) (by omega)) (cloneC (.row s.st) (by omega)))).frozen
theorem code_W:PureC Try.prog 22 [.agg (cfA cW)] (bR bW) []:=confCodeF cW (by decide) (by decide) (by decide) (by decide) (by unfold Cd.isI;decide)
theorem isB_W:Cd.isB bW:=by unfold Cd.isB;decide
theorem isB_W5:Cd.isB [1,1,1,1,2]:=by unfold Cd.isB;decide
theorem sC80: ∀ (i:Nat),i<11→AV.int IntKind.u8 (List.getD [(1:Int),(1:Int),(1:Int),(1:Int),(2:Int),(5:Int),(1:Int),(1:Int),(1:Int),(1:Int),(1:Int)] i (0:Int))=AV.int IntKind.u8 (List.getD [(1:Int),(1:Int),(1:Int),(1:Int),(2:Int),(5:Int),(1:Int),(1:Int),(1:Int),(1:Int),(1:Int)] i (0:Int)):=(fun _ _=>rfl)
theorem zC80 {Z:Prop} (z:Z):(RF (0:Nat) (RF (0:Nat) (RF (0:Int) Z))):=⟨rfl,rfl,rfl,z⟩
theorem zC81 {Z:Prop} (z:Z):(RF (0:Int) (RF (0:Int) (RF (0:Int) (RF (0:Int) (RF (1:Nat) (RR 1 1 (fun i j=>aI (List.getD [(4:Int)] i (0:Int))) (RF (0:Nat) (RR 0 1 (fun i j=>aI (List.getD [] i (0:Int))) (RF (0:Int) Z))))))))):=⟨rfl,rfl,rfl,rfl,rfl,fun _ _ _ _=>rfl,rfl,fun _ _ _ _=>rfl,rfl,z⟩
theorem awake_vc (h1:PureC Try.prog 16 [.agg (s8R cW.s)] (.agg (bgA cW.s)) []) (h2:PureC Try.prog 22 [.agg (cfA cW)] (bR bW) []) (h3:PureC Try.prog 8 [bR bW] (.tup [.agg (cfA cW), .bool true]) []) (h4:PureC Try.prog 8 [bR [1,1,1,1,2]] (.tup [.agg (cfA Cf0), .bool false]) []) (h5:PureC Try.prog 9 [lR lW] (bR bW) []) (h6:PureC Try.prog 10 [.agg (cfA cW), .agg (cfA cW)] (.bool true) []) (h7:PureC Try.prog 17 [.agg (cfA cW)] (.bool false) []) (h8:PureC Try.prog 17 [.agg (cfA hW)] (.bool true) []):Vc (vcFn Try.prog false 13 [] [.cl [.agg (s8R cW.s)] (.agg (bgA cW.s)) [], .cl [.agg (cfA cW)] (bR bW) [], .cl [bR bW] (.tup [.agg (cfA cW), .bool true]) [], .cl [bR [1,1,1,1,2]] (.tup [.agg (cfA Cf0), .bool false]) [], .by_ bW, .cl [lR lW] (bR bW) [], .by_ bW, .bd true, .cl [.agg (cfA cW), .agg (cfA cW)] (.bool true) [], .cl [.agg (cfA cW)] (.bool false) [], .cl [.agg (cfA hW)] (.bool true) []] [] (.bool true) []):=vc_by (cj (rf (0:Int)) (cj (rf (0:Int)) (cj (rf (0:Int)) (cj (rf (0:Int)) (cj (rf (1:Nat)) (cj (show ∀ (i:Nat),i<1→ ∀ (j:Nat),j<1→List.getD [aI (4:Int)] ((i+0)*1+j) AV.junk=aI (List.getD [(4:Int)] i (0:Int)) from (fun i hi j hj=>match i,hi,j,hj with |0,_,0,_=>rfl)) (cj (rf (0:Nat)) (cj (rf (0:Int)) (cj h1 (zC81 (zC80 (cj h2 (cj (rf (11:Nat)) (cj (rr 11 1 fun i j=>AV.int IntKind.u8 (List.getD [(1:Int),(1:Int),(1:Int),(1:Int),(2:Int),(5:Int),(1:Int),(1:Int),(1:Int),(1:Int),(1:Int)] i (0:Int))) (cj h3 (cj (pv ((2:Int)≠0)) (cj (show inK IntKind.i64 (Int.tdiv ((11:Nat):Int) (2:Int)) from (in64 (by decide) (by decide))) (cj (show (0:Int)≤Int.tdiv ((11:Nat):Int) (2:Int)∧Int.tdiv ((11:Nat):Int) (2:Int)≤((11:Nat):Int) from by decide) (cj (rf (5:Nat)) (cj (show ∀ (i:Nat),i<5→ ∀ (j:Nat),j<1→AV.int IntKind.u8 (List.getD [(1:Int),(1:Int),(1:Int),(1:Int),(2:Int),(5:Int),(1:Int),(1:Int),(1:Int),(1:Int),(1:Int)] i (0:Int))=AV.int IntKind.u8 (List.getD [(1:Int),(1:Int),(1:Int),(1:Int),(2:Int)] i (0:Int)) from (fun i hi j hj=>match i,hi,j,hj with |0,_,0,_=>rfl |1,_,0,_=>rfl |2,_,0,_=>rfl |3,_,0,_=>rfl |4,_,0,_=>rfl)) (cj h4 (cj (rf (11:Nat)) (cj (sC80) (cj (rf (11:Nat)) (cj (show ∀ (i:Nat),i<11→ ∀ (j:Nat),j<1→List.getD [aI (0:Int),aI (0:Int),aI (0:Int),aI (0:Int),aI (1:Int),aI (4:Int),aI (0:Int),aI (0:Int),aI (0:Int),aI (0:Int),aI (0:Int)] ((i+0)*1+j) AV.junk=aI (List.getD [(0:Int),(0:Int),(0:Int),(0:Int),(1:Int),(4:Int),(0:Int),(0:Int),(0:Int),(0:Int),(0:Int)] i (0:Int)) from (fun i hi j hj=>match i,hi,j,hj with |0,_,0,_=>rfl |1,_,0,_=>rfl |2,_,0,_=>rfl |3,_,0,_=>rfl |4,_,0,_=>rfl |5,_,0,_=>rfl |6,_,0,_=>rfl |7,_,0,_=>rfl |8,_,0,_=>rfl |9,_,0,_=>rfl |10,_,0,_=>rfl)) (cj h5 (cj (rf (11:Nat)) (cj (sC80) (cj (show ([ByteArray.get! (Go.strOfNums [(1:Int),(1:Int),(1:Int),(1:Int),(2:Int),(5:Int),(1:Int),(1:Int),(1:Int),(1:Int),(1:Int)]) (0:Nat),ByteArray.get! (Go.strOfNums [(1:Int),(1:Int),(1:Int),(1:Int),(2:Int),(5:Int),(1:Int),(1:Int),(1:Int),(1:Int),(1:Int)]) (1:Nat),ByteArray.get! (Go.strOfNums [(1:Int),(1:Int),(1:Int),(1:Int),(2:Int),(5:Int),(1:Int),(1:Int),(1:Int),(1:Int),(1:Int)]) (2:Nat),ByteArray.get! (Go.strOfNums [(1:Int),(1:Int),(1:Int),(1:Int),(2:Int),(5:Int),(1:Int),(1:Int),(1:Int),(1:Int),(1:Int)]) (3:Nat),ByteArray.get! (Go.strOfNums [(1:Int),(1:Int),(1:Int),(1:Int),(2:Int),(5:Int),(1:Int),(1:Int),(1:Int),(1:Int),(1:Int)]) (4:Nat),ByteArray.get! (Go.strOfNums [(1:Int),(1:Int),(1:Int),(1:Int),(2:Int),(5:Int),(1:Int),(1:Int),(1:Int),(1:Int),(1:Int)]) (5:Nat),ByteArray.get! (Go.strOfNums [(1:Int),(1:Int),(1:Int),(1:Int),(2:Int),(5:Int),(1:Int),(1:Int),(1:Int),(1:Int),(1:Int)]) (6:Nat),ByteArray.get! (Go.strOfNums [(1:Int),(1:Int),(1:Int),(1:Int),(2:Int),(5:Int),(1:Int),(1:Int),(1:Int),(1:Int),(1:Int)]) (7:Nat),ByteArray.get! (Go.strOfNums [(1:Int),(1:Int),(1:Int),(1:Int),(2:Int),(5:Int),(1:Int),(1:Int),(1:Int),(1:Int),(1:Int)]) (8:Nat),ByteArray.get! (Go.strOfNums [(1:Int),(1:Int),(1:Int),(1:Int),(2:Int),(5:Int),(1:Int),(1:Int),(1:Int),(1:Int),(1:Int)]) (9:Nat),ByteArray.get! (Go.strOfNums [(1:Int),(1:Int),(1:Int),(1:Int),(2:Int),(5:Int),(1:Int),(1:Int),(1:Int),(1:Int),(1:Int)]) (10:Nat)]==[ByteArray.get! (Go.strOfNums [(1:Int),(1:Int),(1:Int),(1:Int),(2:Int),(5:Int),(1:Int),(1:Int),(1:Int),(1:Int),(1:Int)]) (0:Nat),ByteArray.get! (Go.strOfNums [(1:Int),(1:Int),(1:Int),(1:Int),(2:Int),(5:Int),(1:Int),(1:Int),(1:Int),(1:Int),(1:Int)]) (1:Nat),ByteArray.get! (Go.strOfNums [(1:Int),(1:Int),(1:Int),(1:Int),(2:Int),(5:Int),(1:Int),(1:Int),(1:Int),(1:Int),(1:Int)]) (2:Nat),ByteArray.get! (Go.strOfNums [(1:Int),(1:Int),(1:Int),(1:Int),(2:Int),(5:Int),(1:Int),(1:Int),(1:Int),(1:Int),(1:Int)]) (3:Nat),ByteArray.get! (Go.strOfNums [(1:Int),(1:Int),(1:Int),(1:Int),(2:Int),(5:Int),(1:Int),(1:Int),(1:Int),(1:Int),(1:Int)]) (4:Nat),ByteArray.get! (Go.strOfNums [(1:Int),(1:Int),(1:Int),(1:Int),(2:Int),(5:Int),(1:Int),(1:Int),(1:Int),(1:Int),(1:Int)]) (5:Nat),ByteArray.get! (Go.strOfNums [(1:Int),(1:Int),(1:Int),(1:Int),(2:Int),(5:Int),(1:Int),(1:Int),(1:Int),(1:Int),(1:Int)]) (6:Nat),ByteArray.get! (Go.strOfNums [(1:Int),(1:Int),(1:Int),(1:Int),(2:Int),(5:Int),(1:Int),(1:Int),(1:Int),(1:Int),(1:Int)]) (7:Nat),ByteArray.get! (Go.strOfNums [(1:Int),(1:Int),(1:Int),(1:Int),(2:Int),(5:Int),(1:Int),(1:Int),(1:Int),(1:Int),(1:Int)]) (8:Nat),ByteArray.get! (Go.strOfNums [(1:Int),(1:Int),(1:Int),(1:Int),(2:Int),(5:Int),(1:Int),(1:Int),(1:Int),(1:Int),(1:Int)]) (9:Nat),ByteArray.get! (Go.strOfNums [(1:Int),(1:Int),(1:Int),(1:Int),(2:Int),(5:Int),(1:Int),(1:Int),(1:Int),(1:Int),(1:Int)]) (10:Nat)])=true from (beq_self_eq_true _)) (zC81 (cj (rf (0:Nat)) (cj (rr 0 8 fun i j=>rowL enC [] i j) (cj (rf (0:Nat)) (cj (rr 0 1 fun i j=>aI (List.getD [] i (0:Int))) (cj (rf (0:Int)) (cj (rf (0:Int)) (cj (rf (0:Int)) (cj (rf (0:Int)) (cj (rf (0:Int)) (cj (rf (1:Nat)) (cj (rr 1 1 fun i j=>aI (List.getD [(4:Int)] i (0:Int))) (cj (rf (0:Nat)) (cj (rr 0 1 fun i j=>aI (List.getD [] i (0:Int))) (cj (rf (0:Int)) (cj (rf (0:Nat)) (cj (rf (0:Nat)) (cj (rf (0:Int)) (cj h6 (zC81 (zC80 (cj h7 (cj (rf (0:Int)) (cj (rf (0:Int)) (cj (rf (0:Int)) (cj (rf (0:Int)) (cj (rf (0:Nat)) (cj (rf (0:Nat)) (cj (rf (0:Int)) (cj (rf (0:Nat)) (cj (rf (0:Nat)) (cj (rf (1:Int)) (cj h8 (cj (rf true) trivial))))))))))))))))))))))))))))))))))))))))))))))))))))))))))))))) (by kernel_rfl)
theorem awakeC13:PureC Try.prog 13 [] (.bool true) []:=by
 have h6:=rsameC cW cW (by decide) (by decide) (by decide) (by decide) (by decide) (by decide) (by decide) (by decide)
 rw [decide_eq_true rfl] at h6
 exact PureC.vc (awake_vc (begF cW.s (by decide) (by decide)) code_W (parF bW cW isB_W (by decide) rfl) (parN _ isB_W5 (by decide) rfl) (rputC (.row lW) (by decide) (by unfold Cd.isI;decide)).frozen h6 (finC cW) (finC hW))
end
end Go.Proofs.Ytfjapapiappacaa.Px
