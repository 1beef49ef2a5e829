import Derived.Test.YtlfijfodklhplaaGreatAl01
set_option maxHeartbeats 1000000
set_option linter.all false
open Go.RowKit Go.Proofs.Tryz
open Go.Value renaming int->I,bool->B
open Go.IntKind renaming i64->J
open Bool renaming true->T,false->F
namespace Go.Proofs.YtlfijfodklhplaaGreat
def bL(k:Int):Int:=if k=1\/k=2\/k=3 then 9 else 0
def bm(k:Int):Int:=if k=2 then 1 else 0
def bM(k:Int):Int:=if k=2\/k=3\/k=6 then 1000 else 0
def bF(k:Int):Bool:=decide (k=2)
def bK(k:Int):Bool:=decide (1<=k/\k<=7)
def bJ(k a b:Int)(c:Bool):Bool:=decide ((1<=k/\k<=7)/\0<=a/\a<=bL k/\bm k<=b/\b<=bM k/\(c=T->k=2))
def Lh(k a):
 Cr 192 #[.int J k] a (.tuple #[.agg #[.int J (bL k),.int J (bm k),.int J (bM k),B (bF k)],B (bK k)]) λg=>ae aa a g:=by
 by_cases h:1<=k/\k<=7
 .have i:k=1\/k=2\/k=3\/k=4\/k=5\/k=6\/k=7:=by omega
  obtain rfl|rfl|rfl|rfl|rfl|rfl|rfl:=i;all_goals
   go_enter func192,ntmps192;go_wp2;refine UO (v:= .tuple #[.agg #[I J _,I J _,I J _,B _],B T]) (by simp[results,results192,go_sem,bL,bm,bM,bF]) rfl ⟨rfl,(ae.a _ _).b _⟩
 .have j:(k==1)=F:=Uy.2 (by omega);have l:(k==2)=F:=Uy.2 (by omega);have m:(k==3)=F:=Uy.2 (by omega);have n:(k==4)=F:=Uy.2 (by omega);have o:(k==5)=F:=Uy.2 (by omega);have p:(k==6)=F:=Uy.2 (by omega);have q:(k==7)=F:=Uy.2 (by omega);have b:bL k=0:=by unfold bL;rw[Us (by omega)]
  have c:bm k=0:=by unfold bm;rw[Us (by omega)]
  have d:bM k=0:=by unfold bM;rw[Us (by omega)]
  have e:bF k=F:=by simp[bF];omega
  have f:bK k=F:=by simp[bK];omega
  rw[b,c,d,e,f];clear b c d e f h;go_enter func192,ntmps192;go_wp2;refine UO (v:= .tuple #[.agg #[I J 0,I J 0,I J 0,B F],B F]) (by simp[results,results192,go_sem]) rfl ⟨rfl,(ae.a _ _).b _⟩
def F8{k a b c}(d:bK k=T)(f:0<=a)(g:a<=bL k)(h:bm k<=b)(i:b<=bM k)(e:c=T->bF k=T):bJ k a b c=T:=by simp only[bK,bF,UV]at d e;simp only[bJ,UV];exact⟨d,f,g,h,i,e⟩
def uN{k a b c}(d:¬(bK k=T/\0<=a/\a<=bL k/\bm k<=b/\b<=bM k/\(c=T->bF k=T))):bJ k a b c=F:=by simp only[bK,bF,UV]at d;simp only[bJ,Vh];exact d
def OX(k a b c):
 (bK k=F/\Hid (bJ k a b c=F))\/(bK k=T/\a<0/\Hid (bJ k a b c=F))\/(bK k=T/\0<=a/\bL k<a/\Hid (bJ k a b c=F))\/
 (bK k=T/\0<=a/\a<=bL k/\b<bm k/\Hid (bJ k a b c=F))\/(bK k=T/\0<=a/\a<=bL k/\bm k<=b/\bM k<b/\Hid (bJ k a b c=F))\/
 (bK k=T/\0<=a/\a<=bL k/\bm k<=b/\b<=bM k/\bF k=T/\Hid (bJ k a b c=T))\/
 (bK k=T/\0<=a/\a<=bL k/\bm k<=b/\b<=bM k/\bF k=F/\c=F/\Hid (bJ k a b c=T))\/
 (bK k=T/\0<=a/\a<=bL k/\bm k<=b/\b<=bM k/\bF k=F/\c=T/\Hid (bJ k a b c=F)):=by
 by_cases d:bK k=T;by_cases f:0<=a;by_cases g:a<=bL k;by_cases h:bm k<=b;by_cases i:b<=bM k;by_cases j:bF k=T;exact Up (Up (Up (Up (Up (Ur ⟨d,f,g,h,i,j,F8 d f g h i λ_=>j⟩)))));by_cases l:c=T;exact Up (Up (Up (Up (Up (Up (Up ⟨d,f,g,h,i,by simpa using j,l,uN λe=>j (e.2.2.2.2.2 l)⟩))))));exact Up (Up (Up (Up (Up (Up (Ur ⟨d,f,g,h,i,by simpa using j,by simpa using l,F8 d f g h i λm=>absurd m l⟩))))));exact Up (Up (Up (Up (Ur ⟨d,f,g,h,by omega,uN λe=>i e.2.2.2.2.1⟩))));exact Up (Up (Up (Ur ⟨d,f,g,by omega,uN λe=>h e.2.2.2.1⟩)));exact Up (Up (Ur ⟨d,f,by omega,uN λe=>g e.2.2.1⟩));exact Up (Ur ⟨d,by omega,uN λe=>f e.2.1⟩);exact Ur ⟨by simpa using d,uN λe=>d e.1⟩
def uM(k g h i e):
 Cr 161 #[.agg #[.int J k,.int J g,.int J h,B i]] e (B (bJ k g h i)) λo=>ae aa e o:=by
 go_enter func161,ntmps161;go_wp2_with fail;refine(Lh k _).mono ?_;rintro m p ⟨rfl,j⟩;have t:e.heap.size<p.heap.size:=by have:=j.size;simp at this;omega
 have q:=λr=>j.f e.heap.size r (by simp) λm=>m;simp only[Vf]at q;obtain⟨b,a⟩|⟨b,c,a⟩|⟨b,c,d,a⟩|⟨b,c,d,f,a⟩|⟨b,c,d,f,l,a⟩|⟨b,c,d,f,l,n,a⟩|⟨b,c,d,f,l,n,s,a⟩|⟨b,c,d,f,l,n,s,a⟩:=OX k g h i;all_goals
  go_wp2;go_ret;exact⟨pG a.out.symm,(((ae.a _ _).b _).c j).b _⟩
end Go.Proofs.YtlfijfodklhplaaGreat
