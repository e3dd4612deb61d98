/- Several texts in one: CutO, CutT, CutS, CutV. -/
import Derived.Test.YtckpdfkobdgjeaaGreatDoorJAll12
namespace Go.Proofs.YtckpdfkobdgjeaaGreatDoor
set_option maxRecDepth 100000
set_option maxHeartbeats 8000000
open Go.RowKit
set_option linter.unusedSectionVars false
variable [Inhabited Mk]
theorem yc {a:World} {S:Nat} {cs:Array Value} {t:TypeId} {fr:Nat×Nat} (h:a.heap[S]?=some (.cells cs t fr)) {B:Nat} {v:Value} {l:List Int} (c:zG a B v l) (d:t≠3):some S≠v.ownBlock:=by
 rcases c.2 with ⟨rfl,_⟩ | ⟨g,f,i,rfl,_,hg,_⟩
 ·simp [Value.ownBlock]
 intro e;have b:S=g:=by simpa [Value.ownBlock] using e
 subst b;rw [h] at hg;cases hg
 exact d rfl
theorem ZR {a:World} {B b z m:Nat} {v u:Value} {d:List Value} {l:List Int} (h:a.ownsRow B 60 z v m d) (c:zG a b u l):v.ownBlock=none\/v.ownBlock≠u.ownBlock:=by
 rcases h.2 with ⟨rfl,_⟩ | ⟨g,e,f,rfl,_,hg,_⟩
 ·exact Or.inl rfl
 exact Or.inr (yc hg c (by decide))
theorem zG.keep {a b:World} {B:Nat} {v:Value} {l:List Int} {row:Option Nat} (h:zG a B v l) (hg:a.grownBy b row) (c:v.ownBlock=none\/v.ownBlock≠row):zG b B v l:=World.ownsRow.kept h hg c
theorem zG.under {a b:World} {B:Nat} {v:Value} {l:List Int} (h:zG a B v l) (c:Below a.heap.size a b):zG b B v l:=zy h c
def WI (S0:Nat) (b1 aw:BL) (wr:World) (x:Bk):Prop:=x∈b1\/(∃ X∈aw,x.rq=X.rq)/\Wx wr x.ba x.bn x.bc x.bs/\∀ bb off,x.ba=zO bb off->S0<=bb
theorem WI.stay {a:Nat} {b1 b:BL} {wr c:World} {x:Bk} (h:WI a b1 b wr x) (d:Stay wr c):WI a b1 b c x:=h.imp id (fun h=>⟨h.1,h.2.1.stay d,h.2.2⟩)
theorem WI.plain {c:Nat} {b1 b:BL} {w wr:World} {a:Nat} {x:Bk} (h:WI c b1 b wr x) (g:∀ x∈b1,wT (Ui a w) x) (f:∀ x∈b,wT (Ui a w) x) (hg:w.grownBy wr (some a)):wT wr x:=by
 rcases h with h | ⟨⟨X,d,e⟩,h⟩
 ·exact ((g x h).later (Yo hg)).on
 exact ⟨by rw [e];exact ((f X d).later (Yo hg)).on.1,h.1.1⟩
structure SInv (w wr:World) (c n:Int) (ta:Option Addr) (tn tc:Nat) (l:QL) (B S gb:Nat) (b1 aw:BL) (aa:Option Addr) (ka j:Nat) (b:BL) (mv dr:List Int) (gx kx:Nat) (vm vd:Value):Prop where
 stl:Stl c l b1 aw j b mv dr
 box:zj wr S (zI c) (zI n) (.slice ta tn tc) (.slice (zO gx 0) b.length kx)
 res:zj wr (S+1) (zI 0) (zI 0) zN zN
 row:wr.ownsRow B 60 7 (.slice (zO gx 0) b.length kx) b.length (ze b)
 inner:∀ x∈b,WI S b1 aw wr x
 away:wr.ownsRow B 60 7 (.slice aa aw.length ka) aw.length (ze aw)
 mrow:zG wr S vm mv
 drow:zG wr S vd dr
 mdne:∀ g,vm.ownBlock=some g->vd.ownBlock≠some g
 stay:Stay w wr
 grown:w.grownBy wr (some gb)
 gxn:gx=gb\/w.heap.size<=gx
def FV (w:World) (c n:Int) (ta:Option Addr) (tn tc:Nat) (l:QL) (B S gb:Nat) (b1 aw:BL) (aa:Option Addr) (ka:Nat) (p7 p8 p15:Value) (wr:World):Prop :=
 ∃ (j:Nat) (b:BL) (mv dr:List Int) (gx kx:Nat) (ma:Option Addr) (mk:Nat) (da:Option Addr) (dk:Nat),p7=.slice ma (List.length mv) mk/\p8=.slice da (List.length dr) dk/\p15=zI j/\SInv w wr c n ta tn tc l B S gb b1 aw aa ka j b mv dr gx kx (.slice ma mv.length mk) (.slice da dr.length dk)
def G1 (w w':World) (e:Ending) (c n:Int) (ta:Option Addr) (tn tc:Nat) (l:QL) (B gb:Nat) (b1 aw:BL):Prop :=
 ∃ (b:BL) (mv dr:List Int) (gx kx:Nat) (ma:Option Addr) (mk:Nat) (da:Option Addr) (dk:Nat),e=.returned (.tuple #[.agg (zS c n ta tn tc (zO gx 0) (List.length b) kx),.slice ma (List.length mv) mk,.slice da (List.length dr) dk])/\Stl c l b1 aw aw.length b mv dr/\w'.ownsRow B 60 7 (.slice (zO gx 0) b.length kx) b.length (ze b)/\(∀ x∈b,WI w.heap.size b1 aw w' x)/\zG w' w.heap.size (.slice ma mv.length mk) mv/\zG w' w.heap.size (.slice da dr.length dk) dr/\Stay w w'/\w.grownBy w' (some gb)
theorem Ls (w:World) (c n:Int) (r:Option Addr) (t s:Nat) (l:QL) (B i aC:Nat) (b1 f:BL) (ag:Option Addr) (ae:Nat) (cf:QsIn (Ui i w) r t s l) (dj:b1.length+f.length<=12) (ce:∀ x∈b1,wT (Ui i w) x) (cd:∀ x∈f,wT (Ui i w) x) (b8:∀ x∈f,0<x.bs.length) (bu:w.ownsRow B 60 7 (.slice (zO i 0) b1.length aC) b1.length (ze b1)) (bo:w.ownsRow B 60 7 (.slice ag f.length ae) f.length (ze f)) (ad:(Value.slice ag f.length ae).ownBlock≠some i) (cT:B<=w.heap.size) :
 zC 96 #[.agg (zS c n r t s (zO i 0) b1.length aC),.slice ag f.length ae] w fun e w'=>G1 w w' e c n r t s l B i b1 f:=by
 obtain ⟨S,aI⟩:=qA (w.heap.size);obtain ⟨aY,bj⟩:=qB ((w.alloc (.cells (zS c n r t s (some ⟨i,0,none⟩) b1.length aC) 40)).alloc (.cells zZ 40));obtain ⟨bE,bF,V,ck⟩:=ZK w _ _ _ _ bj;rw [aI] at bE bF ck;have dp:i<S:=by have:=(bu.lt i rfl).2;omega
 have cO:Zh (SInv w aY c n r t s l B S i b1 f ag ae 0 b1 [] [] i aC zN zN):=zh ⟨Stl.start,bE,bF,zy bu V,fun x M=>Or.inl M,zy bo V,World.ownsRow_nil _ _ _ _,World.ownsRow_nil _ _ _ _,(fun g e=>by cases e),Stay.below V,⟨V.os,V.tape,V.output,V.size,fun k cX _=>V.block k cX⟩,Or.inl rfl⟩;have cP:=zh bj;have aR:=zh cd;have cH:=zh ce;have cM:=zh cf;have cE:=zh b8;have cJ:=zh ad;have b7:∀ g,(Value.slice ag f.length ae).ownBlock=some g->g<S:=fun g e=>by have:=(bo.lt g e).2;omega
 have bH:=zh b7;have dm:f.length<=12:=by omega
 clear bE bF V ck bj bu bo ce cd cf b8 ad b7;go_enter Tryz.func96,Tryz.ntmps96;go_wp2;go_loopw [7,8,15] (FV w c n r t s l B S i b1 f ag ae) (fun _ _ p _=>f.length-(intOf p).toNat)
 case atStart=>exact ⟨0,b1,[],[],i,aC,none,0,none,0,rfl,rfl,rfl,by rw [<-cP.o];exact cO.o⟩
 case round =>
  obtain ⟨j,b,mv,dr,q,G,al,mk,ah,ai,rfl,rfl,rfl,be⟩:=hrel;have a:=zh be;obtain ⟨de,df,dg,dh⟩:=be.stl.few;clear be;by_cases N:j<f.length
  ·have dq:(j:Int)<f.length:=(by omega);obtain ⟨Y,rfl⟩:∃ Y,ag=some ⟨Y,0,none⟩:=by
    rcases a.o.away.2 with ⟨_,di⟩ | ⟨g,c7,c8,e,_⟩
    ·omega
    simp only [Value.slice.injEq] at e;exact ⟨g,e.1⟩
   obtain ⟨dt,du,af⟩:=VH rfl a.o.away;obtain ⟨X,aJ⟩:=qA (bk f j);have aK:X∈f:=(by rw [<-aJ];exact yx N);have a0:=af j N 0 _ rfl;have a1:=af j N 1 _ rfl;have a2:=af j N 2 _ rfl;have a3:=af j N 3 _ rfl;have a4:=af j N 4 _ rfl;have a5:=af j N 5 _ rfl;have a6:=af j N 6 _ rfl;rw [aJ] at a0 a1 a2 a3 a4 a5 a6;simp only [Nat.zero_add,Nat.add_zero] at a0 a1 a2 a3 a4 a5 a6;have bn:wT wr X:=((aR.o X aK).later (Yo a.o.grown)).on;have b0:QsIn wr r t s l:=(cM.o.later (Yo a.o.grown)).on;have bT:BksIn wr (zO q 0) b.length G b:=S3 rfl a.o.row (fun x M=>(a.o.inner x M).plain cH.o aR.o a.o.grown);obtain ⟨P,bZ⟩:=qA (wr.heap.size);obtain ⟨ao,ax⟩:=qB (wr.alloc (.cells (zB X) 60));have ak:zL wr ao:=(by rw [ax];exact zr _ _);have ba:ww ao P X:=(by rw [ax,<-bZ];exact heap_alloc_new wr _);have aX:=NR ao c n r t s l _ b.length G b (show zY ao r t s l _ _ _ b from ⟨b0.later ak,bT.later ak⟩) X (zH.later bn.1 ak) (bn.2.later ak) (cE.o X aK);obtain ⟨an,bg⟩:=qA (y9 c l b X);rw [bg] at aX;have cI:=zh aX;have aV:=zh bg;have aE:=zh aJ;have c6:=zh (aR.o X aK);have cQ:=zh ax;have bI:=zh ak;have cF:=zh ba;have cL:=zh bZ;obtain ⟨cq,cr,ct,cu⟩:=(a.o.box.later ak).cells;obtain ⟨bv,bw,bx,bz,bA,bB,bC⟩:=ba.cells;rw [ax] at cq cr ct cu bv bw bx bz bA bB bC;have dl:S+2<=P:=by
    have:=(Array.getElem?_eq_some_iff.1 a.o.res).1;omega
   clear aX bg aJ bn b0 bT ak ba ax af;go_wp2_with fail
   rw [<-cQ.o];refine cI.o.mono ?_;rintro e u ⟨fa,fm,fc,rfl,⟨cg,br⟩,bp⟩;have L:zL wr u:=za bI.o bp;have c5:=zh L;have aW:=zh (a.o.box.later L);have aU:=zh (a.o.res.later L);have bK:=zh (zy a.o.row L);have bG:=zh (zy a.o.away L);have aS:=zh (a.o.mrow.under L);have au:=zh (a.o.drow.under L);have aQ:=zh (YF a.o.grown L);have bM:=zh (a.o.stay.trans (Stay.below L));have bN:=zh (Stay.below L);have am:=zh (cF.o.later bp);have cU:S<=u.heap.size:=(by have:=aQ.o.size;omega);have bL:Zh (Wx u fa fm fc an.1):=zh ⟨cg,fun ap aD e _=>by
    obtain ⟨_,cs,fr,a8⟩:=br ap aD e;exact ⟨cs,62,fr,a8,by decide,by decide,by decide⟩⟩
   have cK:Zh (∀ ap aD,fa=zO ap aD->S<=ap):=zh fun ap aD e=>by
    have Z:=(br ap aD e).1;have a8:=a.o.grown.size;have dk:=bI.o.size;omega
   clear bp L cg br cq cr ct cu bv bw bx bz bA bB bC a0 a1 a2 a3 a4 a5 a6;obtain ⟨bv,bw,bx,bz,bA,bB,bC⟩:=am.o.cells;cases aM:an.2 with
   | false =>
    obtain ⟨m,O⟩:=qB (u.alloc (.cells #[zI X.id] 3));have A:zL u m:=(by rw [O];exact zr _ _);obtain ⟨g,k,cC,aB,aA,d,az⟩:=ZC m S (.slice ah dr.length ai) dr X.id (au.o.under A) u.heap.size (by rw [O];exact heap_alloc_new u _) (by omega) (Nat.le_trans cU A.size);have bq:Stay m cC:=Stay.grown d (Ua (au.o.under A) (Or.inr (Or.inr rfl)));have aT:Zh (SInv w cC c n r t s l B S i b1 f (zO Y 0) ae (j+1) b mv (dr++[X.id]) q G (.slice al mv.length mk) (.slice (zO g 0) (dr.length+1) k)):=by
     have E:=aW.o.later A;have I:=aU.o.later A;have z:=zy bK.o A;have aa:=zy bG.o A;have Q:=aS.o.under A;have D:=au.o.under A;refine zh ⟨?_,?_,?_,?_,?_,?_,?_,aA,?_,?_,?_,a.o.gxn⟩
     ·have:=Stl.dropped a.o.stl N (by rw [aE.o,aV.o];exact aM);rw [aE.o] at this;exact this
     ·exact (d.block S (Array.getElem?_eq_some_iff.1 E).1 (yc E D (by decide))).trans E
     ·exact (d.block (S+1) (Array.getElem?_eq_some_iff.1 I).1 (yc I D (by decide))).trans I
     ·exact z.kept d (ZR z D)
     ·exact fun x M=>(a.o.inner x M).stay (bN.o.trans ((Stay.below A).trans bq))
     ·exact aa.kept d (ZR aa D)
     ·refine Q.keep d ?_;cases cY:(Value.slice al mv.length mk).ownBlock with
      | none=>exact Or.inl rfl
      | some gm=>exact Or.inr fun e=>a.o.mdne gm cY e.symm
     ·intro a7 aN e;have aZ:g=a7:=(by simpa [Value.ownBlock] using e);subst aZ;rcases az with Z | Z
      ·exact a.o.mdne g aN Z
      have:=(Q.lt g aN).2;omega
     ·exact bM.o.trans ((Stay.below A).trans bq)
     exact xE (YF aQ.o A) d (fun y e=>by have:=(D.lt y e).1;omega)
    rw [O] at aB;clear O A aA d az bq aM;go_wp2_with (at_builtin;refine Lib.wpList_append_run _ rfl _ _ _ _ rfl _ _ rfl rfl _ _ aB ?_)
    go_roundw
    case rel=>exact ⟨j+1,b,mv,dr++[X.id],q,G,al,mk,zO g 0,k,rfl,by simp,by go_num,by simpa using aT.o⟩
    case measure=>simp [intOf];omega
   | true =>
    obtain ⟨X',bl⟩:∃ X':Bk,X'=⟨X.id,X.rq,fa,fm,fc,an.1⟩:=⟨_,rfl⟩;obtain ⟨m,O⟩:=qB (u.setCell ⟨P,6,none⟩ (.slice fa fm fc));have R:u.grownBy m (some P):=(by rw [O];exact ⟨rfl,rfl,rfl,by simp [World.setCell],fun k _ ad=>Below.heap_setCell _ _ _ k (fun e=>ad (by rw [e]))⟩);have aj:ww m P X':=(by rw [O,bl];exact heap_setCell_same u P 6 _ _ _ am.o);have ay:∀ {bP:Nat},bP<P->some bP≠some P:=fun h e=>by have:=Option.some.inj e;omega
    have E:zj m S (zI c) (zI n) (.slice r t s) (.slice (zO q 0) b.length G):=(R.block S (Array.getElem?_eq_some_iff.1 aW.o).1 (ay (by omega))).trans aW.o;have I:zj m (S+1) (zI 0) (zI 0) zN zN:=(R.block (S+1) (Array.getElem?_eq_some_iff.1 aU.o).1 (ay (by omega))).trans aU.o;have cW:q<P:=(by have:=(a.o.row.lt q rfl).2;have:=cL.o;omega);have z:=bK.o.kept R (Or.inr (fun e=>ay cW e));have aa:=bG.o.kept R (Or.inr (fun e=>ay (show Y<P by have:=bH.o Y rfl;omega) e));have Q:zG m S (.slice al mv.length mk) mv:=aS.o.keep R (Or.inr fun e=>yc am.o aS.o (by decide) e.symm);have D:zG m S (.slice ah dr.length ai) dr:=au.o.keep R (Or.inr fun e=>yc am.o au.o (by decide) e.symm);have aq:Stay u m:=Stay.grown R (fun g e=>by cases e;exact Ti am.o (Or.inl rfl));have ab:w.grownBy m (some i):=xE aQ.o R (fun k e=>by cases e;omega);have aH:Wx m fa fm fc an.1:=bL.o.stay aq;have bO:=LZ m B b.length G (zO q 0) b X' rfl (by omega) z (Nat.le_trans cT ab.size);have bJ:=zh bO;have cD:=zh (And.intro E (And.intro I (And.intro z (And.intro aa (And.intro Q (And.intro D (And.intro aq (And.intro ab (And.intro aH aj)))))))));obtain ⟨cm,cn,co,cp⟩:=E.cells;obtain ⟨cv,cw,cx,cy,cz,cA,cB⟩:=aj.cells;have ds:∀ k,u.frozen? (zA P k)=false:=fun k=>frozen_of_row u P k _ _ am.o;rw [O] at cm cn co cp cv cw cx cy cz cA cB;rw [bl] at cv cw cx cy cz cA cB bJ;have cR:=zh O;have aF:=zh bl;have cG:=zh aM;clear R aj E I z aa Q D aq ab aH bO O ay aM;go_wp2_with fail
    rw [<-cR.o];refine bJ.o.mono ?_;rintro e H ⟨av,aP,rfl,bt,ca,b9⟩;obtain ⟨E,I,z,aa,Q,D,aq,ab,aH,aj⟩:=cD.o;have J:m.grownBy H (some q):=ca;have U:zj H S (zI c) (zI n) (.slice r t s) (.slice (zO q 0) b.length G):=(J.block S (Array.getElem?_eq_some_iff.1 E).1 (E.not_row z)).trans E;have bh:zj H (S+1) (zI 0) (zI 0) zN zN:=(J.block (S+1) (Array.getElem?_eq_some_iff.1 I).1 (I.not_row z)).trans I;have bb:ww H P X':=(J.block P (Array.getElem?_eq_some_iff.1 aj).1 (fun e=>by have:=Option.some.inj e;omega)).trans aj;have cb:some Y≠some q:=fun e=>by
     have Z:=Option.some.inj e;have a8:=bH.o Y rfl;rcases a.o.gxn with h | h
     ·exact cJ.o (by rw [<-h,<-Z];rfl)
     omega
    have a9:=aa.kept J (Or.inr cb);have bf:=Q.keep J (Or.inr fun e=>(ZR z Q).elim (fun h=>by cases h) (fun h=>h e.symm));have bc:=D.keep J (Or.inr fun e=>(ZR z D).elim (fun h=>by cases h) (fun h=>h e.symm));have b4:Stay m H:=Stay.grown J (Ua z (Or.inl rfl));have cc:q=i\/w.heap.size<=q:=a.o.gxn;have bW:w.grownBy H (some i):=by
     rcases cc with h | h
     ·rw [h] at J;exact TU ab J
     exact xE ab J (fun k e=>by cases e;exact h)
    obtain ⟨C,ar⟩:=qB (H.setCell ⟨S,3,none⟩ (.slice (some ⟨av,0,none⟩) (b.length+1) aP));have W:H.grownBy C (some S):=(by rw [ar];exact ⟨rfl,rfl,rfl,by simp [World.setCell],fun k _ ad=>Below.heap_setCell _ _ _ k (fun e=>ad (by rw [e]))⟩);have b3:zj C S (zI c) (zI n) (.slice r t s) (.slice (zO av 0) (b.length+1) aP):=(by rw [ar];exact U.set3 _);have b2:zj C (S+1) (zI 0) (zI 0) zN zN:=(W.block (S+1) (Array.getElem?_eq_some_iff.1 bh).1 (fun e=>by have:=Option.some.inj e;omega)).trans bh;have bS:ww C P X':=(W.block P (Array.getElem?_eq_some_iff.1 bb).1 (fun e=>by have:=Option.some.inj e;omega)).trans bb;have bX:=bt.kept W (Or.inr fun e=>U.not_row bt e.symm);have bQ:=a9.kept W (Or.inr fun e=>U.not_row a9 e.symm);have aG:=bf.keep W (Or.inr fun e=>yc U bf (by decide) e.symm);have bU:=bc.keep W (Or.inr fun e=>yc U bc (by decide) e.symm);have b5:Stay H C:=Stay.grown W (fun g e=>by cases e;exact Ti U (Or.inr (Or.inl rfl)));have bd:w.grownBy C (some i):=xE bW W (fun k e=>by cases e;omega);obtain ⟨w6,aO⟩:=qB (C.alloc (.cells #[zI X.id] 3));have F:zL C w6:=(by rw [aO];exact zr _ _);obtain ⟨g,k,bD,aB,aA,d,az⟩:=ZC w6 S (.slice al mv.length mk) mv X.id (aG.under F) C.heap.size (by rw [aO];exact heap_alloc_new C _) (by omega) (Nat.le_trans (by have:=bd.size;omega) F.size);have b6:Stay w6 bD:=Stay.grown d (Ua (aG.under F) (Or.inr (Or.inr rfl)));have aL:Stay u bD:=aq.trans (b4.trans (b5.trans ((Stay.below F).trans b6)));have aT:Zh (SInv w bD c n r t s l B S i b1 f (zO Y 0) ae (j+1) (Zj b X') (mv++[X.id]) dr av aP (.slice (zO g 0) (mv.length+1) k) (.slice ah dr.length ai)):=by
     have bm:=b3.later F;have bi:=b2.later F;have bY:=zy bX F;have bR:=zy bQ F;have aw:=aG.under F;have bV:=bU.under F;refine zh ⟨?_,?_,?_,?_,?_,?_,aA,?_,?_,?_,?_,?_⟩
     ·have:=Stl.moved (fa:=fa) (fm:=fm) (fc:=fc) a.o.stl N (by rw [aE.o,aV.o];exact cG.o);rw [aE.o,aV.o] at this;rw [aF.o];exact this
     ·rw [Z7];exact (d.block S (Array.getElem?_eq_some_iff.1 bm).1 (yc bm aw (by decide))).trans bm
     ·exact (d.block (S+1) (Array.getElem?_eq_some_iff.1 bi).1 (yc bi aw (by decide))).trans bi
     ·rw [Z7,aF.o];exact bY.kept d (ZR bY aw)
     ·intro x M;rcases UO M with rfl | M
      ·rw [aF.o];exact Or.inr ⟨⟨X,aK,rfl⟩,bL.o.stay aL,cK.o⟩
      exact (a.o.inner x M).stay (bN.o.trans aL)
     ·exact bR.kept d (ZR bR aw)
     ·refine bV.keep d ?_;cases cV:(Value.slice ah dr.length ai).ownBlock with
      | none=>exact Or.inl rfl
      | some gd=>exact Or.inr fun e=>a.o.mdne gd e.symm cV
     ·intro a7 aN e;have aZ:g=a7:=(by simpa [Value.ownBlock] using aN);subst aZ;rcases az with Z | Z
      ·exact a.o.mdne g Z e
      have:=(bV.lt g e).2;omega
     ·exact bM.o.trans aL
     ·exact xE (YF bd F) d (fun y e=>by have:=(aw.lt y e).1;omega)
     rcases b9 with h | h
     ·have cS:q=av:=Option.some.inj h;rw [<-cS];exact a.o.gxn
     exact Or.inr (Nat.le_trans ab.size h)
    obtain ⟨cm,cn,co,cp⟩:=U.cells;have dv:∀ k,H.frozen? (zA S k)=false:=fun k=>frozen_of_row H S k _ _ U;obtain ⟨cl,cZ,c0,c1,c2,c3,c4⟩:=bS.cells;rw [ar] at cl cZ c0 c1 c2 c3 c4;rw [aF.o] at cl;have ch:C.heap.size=H.heap.size:=(by rw [ar];simp [World.setCell]);rw [ch,aO,ar] at aB;clear E I z aa Q D aq ab aH aj ca J U bh bb cb a9 bf bc b4 cc bW ar W b3 b2 bS bX bQ aG bU b5 bd aO F aA d az b6 aL bt b9 ch;go_wp2_with (at_builtin;refine Lib.wpList_append_run _ rfl _ _ _ _ rfl _ _ rfl rfl _ _ aB ?_)
    go_roundw
    case rel=>exact ⟨j+1,Zj b X',mv++[X.id],dr,av,aP,zO g 0,k,ah,ai,by simp,rfl,by go_num,by simpa using aT.o⟩
    case measure=>simp [intOf];omega
  obtain rfl:j=f.length:=by omega
  obtain ⟨c9,da,db,dc⟩:=a.o.box.cells;obtain ⟨dw,dx,dy,dz⟩:=a.o.res.cells;have dA:∀ k,wr.frozen? (zA (S+1) k)=false:=fun k=>frozen_of_row wr (S+1) k _ _ a.o.res;go_wp2;have ci:=zk wr (S+1) 40 _ _ _ _ (zI c) (zI n) (.slice r t s) (.slice (zO q 0) b.length G) a.o.res;refine bodyPost_ret (v:=.tuple #[.agg (zS c n r t s (zO q 0) b.length G),.slice al mv.length mk,.slice ah dr.length ai]) (zq Tryz.results96 _ _ (S+1) 40 (zS c n r t s (zO q 0) b.length G) (0,0) _ rfl ci.1 Tryz.underlying40 rfl (by kernel_rfl)) rfl ?_;have d:wr.grownBy ((((wr.setCell (zA (S+1) 0) (zI c)).setCell (zA (S+1) 1) (zI n)).setCell (zA (S+1) 2) (.slice r t s)).setCell (zA (S+1) 3) (.slice (zO q 0) b.length G)) (some (S+1)):=⟨rfl,rfl,rfl,by simp [World.setCell],fun k _ ad=>ci.2 k (fun e=>ad (by rw [e]))⟩;have cj:=Stay.grown d (fun g e=>by cases e;exact Ti a.o.res (Or.inr (Or.inl rfl)));refine ⟨b,mv,dr,q,G,al,mk,ah,ai,rfl,a.o.stl,a.o.row.kept d (Or.inr fun e=>a.o.res.not_row a.o.row e.symm),fun x M=>by rw [aI];exact (a.o.inner x M).stay cj,?_,?_,a.o.stay.trans cj,xE a.o.grown d (fun k e=>by cases e;omega)⟩
  ·rw [aI];exact a.o.mrow.keep d (Or.inr fun e=>yc a.o.res a.o.mrow (by decide) e.symm)
  rw [aI];exact a.o.drow.keep d (Or.inr fun e=>yc a.o.res a.o.drow (by decide) e.symm)
theorem Lit.none {c:Int} {l:QL} {d b a:BL} (h:Lit c l d b a) (i:∀ u,c<=u->u<48->∀ q,q<l.length->yw l d u q=false):b=d/\a=[]:=by
 induction h with
 | start=>exact ⟨rfl,rfl⟩
 | @step b a t q _ hf ih =>
  obtain ⟨rfl,rfl⟩:=ih;rcases hf with ⟨e,_⟩ | ⟨_,j,m,k,g,_,f,_,_⟩
  ·cases e
  rw [i t j m k g] at f;cases f
theorem S2 {X:Bk} {u:Nat}:∀ {k:Nat},0<yo X u k->∃ i,i<k/\rN X.bs i<=u/\(u:Int)<rN X.bs i+lenOf X.rq X.bs i
 | 0,h=>by simp [yo] at h
 | k+1,h=>by
  rw [yo] at h;by_cases a:0<yo X u k
  ·obtain ⟨i,c,b⟩:=S2 a;exact ⟨i,by omega,b⟩
  unfold VM at h
  split at h
  ·rename_i hin;exact ⟨k,by omega,hin⟩
  omega
theorem Hf {X:Bk} {t:Int} (b:0<=t) (h:0<yo X t.toNat X.bs.length):Yb X t=true:=by
 obtain ⟨i,a,c,d⟩:=S2 h;unfold Yb;rw [yO (p:=fun i=>!Vq X t i) (k:=i) (by simp only [Vq,Bool.not_eq_false',Bool.and_eq_true,decide_eq_true_eq];omega) X.bs.length a];rfl
theorem IG (b:BL) (i:Nat):(wU b i).Sublist b:=by
 have a:(b.take i++b.drop (i+1)).Sublist (b.take i++b.drop i):=List.Sublist.append (List.Sublist.refl _) (by
  rw [<-List.drop_drop];exact List.drop_sublist 1 _)
 rw [List.take_append_drop] at a;exact a
theorem Lit.sub {c:Int} {l:QL} {a b d:BL} (h:Lit c l a b d):b.Sublist a:=by
 induction h with
 | start=>exact List.Sublist.refl _
 | step _ _ ih=>exact (IG _ _).trans ih
def Up (b:BL):Prop:=b.Pairwise (fun x y=>x.id<y.id)
theorem Pp (b:BL) (a:Int):∀ n,(∀ i,XY b a n<=i->i<n->¬(bk b i).id<a)/\(XY b a n=0\/(bk b (XY b a n-1)).id<a)
 | 0=>⟨fun i _ h=>by omega,Or.inl rfl⟩
 | n+1=>by
  obtain ⟨d,f⟩:=Pp b a n;rw [XY]
  split
  ·rename_i h;exact ⟨fun i c hn=>by omega,Or.inr h⟩
  rename_i h;refine ⟨fun i c hn=>?_,f⟩;by_cases e:i=n
  ·subst e;exact h
  exact d i c (by omega)
theorem Tp (b:BL) (x:Bk):(Zj b x).Perm (x::b):=by
 unfold Zj yL;have h:=List.perm_middle (a:=x) (l₁:=b.take (XY b x.id b.length)) (l₂:=b.drop (XY b x.id b.length));rw [List.take_append_drop] at h;exact h
theorem Hi {b:BL} {x:Bk} (h:Up b) (r:∀ y∈b,y.id≠x.id):Up (Zj b x):=by
 obtain ⟨j,c⟩:=Pp b x.id b.length;have o:=Oa b x.id b.length;unfold Zj yL;obtain ⟨p,q⟩:=qA (XY b x.id b.length);rw [q] at j c o ⊢;have n:=List.pairwise_iff_getElem.1 h;have l:∀ y∈b.take p,y.id<x.id:=by
  intro y a;obtain ⟨i,f,rfl⟩:=List.getElem_of_mem a;have d:i<p/\i<b.length:=by simp at f;exact ⟨by omega,by omega⟩
  rw [List.getElem_take];rcases c with e | c
  ·omega
  rw [wI (show p-1<b.length by omega)] at c;by_cases e:i=p-1
  ·subst e;exact c
  have:=n i (p-1) d.2 (by omega) (by omega);omega
 have k:∀ y∈b.drop p,x.id<y.id:=by
  intro y a;obtain ⟨i,f,rfl⟩:=List.getElem_of_mem a;have d:p+i<b.length:=by simp at f;omega
  rw [List.getElem_drop];have m:=j (p+i) (by omega) d;rw [wI d] at m;have s:=r b[p+i] (List.getElem_mem d);omega
 unfold Up;rw [List.pairwise_append,List.pairwise_cons];refine ⟨h.sublist (List.take_sublist _ _),⟨k,h.sublist (List.drop_sublist _ _)⟩,fun y a z g=>?_⟩;rcases List.mem_cons.1 g with e | g
 ·rw [e];exact l y a
 have:=l y a;have:=k z g;omega
theorem Ji {b:BL} {i:Nat} (h:i<b.length):(bk b i::wU b i).Perm b:=by
 have c:=List.perm_middle (a:=bk b i) (l₁:=b.take i) (l₂:=b.drop (i+1));rw [wI h,List.getElem_cons_drop h,List.take_append_drop] at c;rw [wI h];exact c.symm
theorem Up.nodup {b:BL} (h:Up b):(b.map Bk.id).Nodup:=by
 unfold List.Nodup;rw [List.pairwise_map];exact h.imp fun a=>by omega
theorem Lit.all {c:Int} {l:QL} {d b a:BL} (h:Lit c l d b a) (m:Clean l d) (i:0<=c) (r:Up d):(b++a).Perm d/\Up a:=by
 induction h with
 | start=>exact ⟨by simp,List.Pairwise.nil⟩
 | @step b a t q hl hf ih =>
  obtain ⟨j,w,x,z⟩:=hl.clean m i;obtain ⟨g,u⟩:=ih;rcases hf with ⟨e,_⟩ | ⟨_,B,v,k,n,A,o,_,_⟩
  ·cases e
  have p:q=k:=by omega
  subst p;have f:=WT l b t q b.length (XX j n (by omega) v o);refine ⟨?_,Hi u fun y s e=>?_⟩
  ·refine List.Perm.trans ?_ g;refine (List.Perm.append_left _ (Tp _ _)).trans ?_;refine List.perm_middle.trans ?_;exact (Ji f).append_right a
  have hn:=(g.map Bk.id).nodup_iff.2 r.nodup;rw [List.map_append,List.nodup_append] at hn;exact hn.2.2 _ (List.mem_map_of_mem (yx f)) _ (List.mem_map_of_mem s) e.symm
theorem TV (f:zd) (r:Rq) (c:Int) (b:zd):∀ k,xz f (r.from c) b k=xz f r b k
 | 0=>rfl
 | k+1=>by rw [xz,xz,TV f r c b k];rfl
theorem M1 (f:zd) (r:Rq) (c:Int) (b:zd):Xl f (r.from c) b=Xl f r b:=by unfold Xl;rw [TV]
theorem UK (r:Rq) (c:Int) (b:zd):∀ k,zJ (r.from c) b k=zJ r b k
 | 0=>rfl
 | k+1=>by rw [zJ,zJ,UK r c b k];rfl
theorem M9 {r:Rq} {c:Int} {b:zd} (n:z8 false r=0) (h:meets (r.from c) b=true):meets r b=true/\(∀ i,i<b.length->c<=rN b i)/\c<zJ r b b.length:=by
 obtain ⟨p,o,j⟩:=yk.1 h;have k:=YY h;rw [UK] at k;refine ⟨yk.2 ⟨n,o,fun i e=>?_⟩,fun i e=>?_,?_⟩
 ·obtain ⟨f,d,g⟩:=wm (j i e);have a:=wR d;have l:xt r b i=true:=f;have m:xF r b i=true:=decide_eq_true ⟨by have:=a.1;simp only [Rq.from] at this;omega,a.2⟩;simp only [xD,l,m,Bool.and_self,Bool.true_and,Bool.or_eq_true,decide_eq_true_eq];exact g
 ·obtain ⟨f,d,g⟩:=wm (j i e);have a:=(wR d).1;simp only [Rq.from] at a;omega
 have:=k.2.1;simp only [Rq.from] at this;omega
theorem X8 {c n:Int} {l:QL} {b:BL} (h:Sound c n l b):Up b/\(∀ x∈b,0<=x.id/\x.id<n)/\∀ x∈b,c<yA x:=by
 refine ⟨?_,fun x d=>?_,fun x d=>?_⟩
 ·unfold Up;rw [List.pairwise_iff_getElem];intro i j a e f;have:=YG h e f;rw [wI a,wI e] at this;exact this
 ·obtain ⟨i,a,rfl⟩:=yT d;exact PW h a
 obtain ⟨i,a,rfl⟩:=yT d;exact h.alive i a
theorem N5 {c n:Int} {l:QL} {b:BL} (g:Clean l b) (d:0<=c) (c1:c<=48) (o:0<=n) (p:n<=1048576) (m:Up b) (k:∀ x∈b,0<=x.id/\x.id<n) (f:∀ x∈b,c<yA x) (j:∀ q:Nat,q<l.length->∀ t:Nat,c<=t->t<48->xh l b q t b.length<=zn (qu l q).runs t):Sound c n l b:=by
 refine ⟨g,d,c1,o,p,fun i h=>?_,fun i h=>f _ (yx h),j⟩;have a:=k _ (yx h);refine ⟨?_,a.2⟩;unfold xd;by_cases e:i=0
 ·rw [if_pos e];exact a.1
 rw [if_neg e];have r:=List.pairwise_iff_getElem.1 m (i-1) i (by omega) h (by omega);rw [wI h,wI (show i-1<b.length by omega)];omega
theorem Lit.sound {c n:Int} {l:QL} {a b j:BL} (h:Lit c l a b j) (m:Clean l a) (e:0<=c) (c1:c<=48) (v:0<=n) (w:n<=1048576) (s:Up a) (o:∀ x∈a,0<=x.id/\x.id<n) (k:∀ x∈a,c<yA x) (p:∀ u,c<=u->u<48->∀ q,q<l.length->yw l b u q=false):Sound c n l b:=by
 obtain ⟨f,g,_,_⟩:=h.clean m e;refine N5 f e c1 v w (s.sublist h.sub) (fun x d=>o x (g x d)) (fun x d=>k x (g x d)) fun q i t r y=>?_;have:=(IU f i (t:=(t:Int)) (by omega) (by omega)).1 (p t r (by omega) q i);rw [Int.toNat_natCast] at this;exact this
theorem Hc (f:Bk->Int) {a b:BL} (h:a.Perm b):(a.map f).sum=(b.map f).sum:=by
 induction h with
 | nil=>rfl
 | cons x _ ih=>simp only [List.map_cons,List.sum_cons,ih]
 | swap x y l=>simp only [List.map_cons,List.sum_cons];omega
 | trans _ _ h1 h2=>exact h1.trans h2
theorem Jo {c n:Int} {l:QL} {b:BL} {X:Bk} {fa:Option Addr} {fm fc:Nat} (h:Sound c n l b) (g:ZZ l X=0) (zh:0<=X.id/\X.id<n) (P:∀ y∈b,y.id≠X.id) (V:b.length<12) (a:(y9 c l b X).2=true) :
 Sound c n l (Zj b ⟨X.id,X.rq,fa,fm,fc,(y9 c l b X).1⟩)/\∀ i,i<(y9 c l b X).1.length->c<=rN (y9 c l b X).1 i:=by
 obtain ⟨R,s,J⟩:=X8 h;have v:yI l X.rq=0:=by
  unfold ZZ at g;by_cases e:yI l X.rq=0
  ·exact e
  rw [if_neg e] at g;exact absurd g e
 have I:z8 false X.rq=0:=(yk.1 (y8 h.clean.tree g).1).1;obtain ⟨_,W,x⟩:=y8 h.clean.tree g;have C:meets (X.rq.from c) (y9 c l b X).1=true/\Xl (xH l b X.rq.queue) (X.rq.from c) (y9 c l b X).1=true:=by
  unfold y9 at a ⊢;by_cases e:ZD X c=true
  ·rw [if_pos e] at a;cases a
  rw [if_neg e] at a ⊢;unfold yU at a ⊢;by_cases z:Zq l b (X.rq.from c).queue=0
  ·rw [if_pos z] at a ⊢;by_cases r:yq (xH l b (X.rq.from c).queue) (X.rq.from c)=0
   ·rw [if_pos r] at a ⊢;exact Td r (Prod.ext rfl a)
   rw [if_neg r] at a;cases a
  rw [if_neg z] at a;cases a
 obtain ⟨bs,L⟩:=qA ((y9 c l b X).1);rw [L] at C ⊢;obtain ⟨G,m⟩:=C;rw [M1] at m;obtain ⟨p,S,D⟩:=M9 I G;obtain ⟨d,o⟩:∃ d:Bk,d=⟨X.id,X.rq,fa,fm,fc,bs⟩:=⟨_,rfl⟩;rw [<-o];have E:d.id=X.id:=by rw [o]
 have k:d.rq=X.rq:=by rw [o]
 have U:d.bs=bs:=by rw [o]
 rw [<-k,<-U] at p m D;have M:ZZ l d=0:=by unfold ZZ;rw [k,if_pos v,<-k,if_pos p]
 have u:∀ y∈Zj b d,y=d\/y∈b:=fun y f=>UO f;have N:Clean l (Zj b d):=⟨h.clean.tree,by rw [Z7];omega,fun i s=>by
  rcases u _ (yx s) with e | e
  ·rw [e];exact M
  obtain ⟨j,O,F⟩:=yT e;rw [<-F];exact h.clean.each j O⟩
 rw [<-k] at x;refine ⟨N5 N h.c0 h.c48 h.n0 h.n1 (Hi R fun y f=>by rw [E];exact P y f) (fun y f=>?_) (fun y f=>?_) fun q v t Q w=>?_,S⟩
 ·rcases u y f with e | e
  ·rw [e,E];exact zh
  exact s y e
 ·rcases u y f with e | e
  ·rw [e,(Pk p).2];exact D
  exact J y e
 ·rw [XI,Hc _ (Tp b d)];simp only [List.map_cons,List.sum_cons];have A:=h.fits q v t Q w;rw [XI] at A;unfold Tl at A ⊢
  split
  ·rename_i hl;rcases Rn (XZ h.clean x) p (by rw [k] at m ⊢;exact m) w with H | H
   ·omega
   have B:=L2 h.clean x hl w;rw [XI] at B;unfold Tl at B;omega
  omega
def LC (c:Int) (X Y:Bk):Prop:=Y.id=X.id/\Y.rq=X.rq/\∀ i,i<Y.bs.length->c<=rN Y.bs i
structure StlFacts (c n:Int) (l:QL) (b1 aw:BL) (j:Nat) (b:BL) (mv dr:List Int):Prop where
 sound:Sound c n l b
 le:j<=aw.length
 told:(mv++dr).Perm ((aw.take j).map Bk.id)
 ids:(b.map Bk.id).Perm (b1.map Bk.id++mv)
 each:∀ y∈b,y∈b1\/y.id∈mv/\∃ X∈aw,LC c X y
theorem Stl.facts {c n:Int} {l:QL} {b1 a:BL} (q:Sound c n l b1) (s:∀ x∈a,ZZ l x=0) (t:∀ x∈a,0<=x.id/\x.id<n) (m:(b1.map Bk.id++a.map Bk.id).Nodup) (A:b1.length+a.length<=12) {j:Nat} {b:BL} {mv dr:List Int} (h:Stl c l b1 a j b mv dr):StlFacts c n l b1 a j b mv dr:=by
 induction h with
 | start=>exact ⟨q,Nat.zero_le _,by simp,by simp,fun y d=>Or.inl d⟩
 | @moved j b mv dr fa fm fc hs hj hr ih =>
  have k:=yx hj;have B:=hs.few;have v:∀ y∈b,y.id≠(bk a j).id:=by
   intro y d e;have f:=ih.ids.subset (List.mem_map_of_mem d);rw [List.nodup_append] at m;rcases List.mem_append.1 f with f | f
   ·exact m.2.2 _ f _ (List.mem_map_of_mem k) e
   have g:=ih.told.subset (List.mem_append_left dr f);rw [List.map_take,List.mem_take_iff_getElem] at g;obtain ⟨i,u,g⟩:=g;have r:=List.pairwise_iff_getElem.1 m.2.1 i j (by simp at u ⊢;omega) (by simpa using hj) (by omega);apply r;rw [g,e,wI hj,List.getElem_map]
  obtain ⟨w,z⟩:=Jo (fa:=fa) (fm:=fm) (fc:=fc) ih.sound (s _ k) (t _ k) v (by omega) hr;refine ⟨w,hj,?_,?_,fun y d=>?_⟩
  ·rw [List.take_succ_eq_append_getElem hj,List.map_append,List.append_assoc];refine (List.Perm.append_left mv List.perm_append_comm).trans ?_;rw [<-List.append_assoc];refine (ih.told.append_right _).trans ?_;rw [wI hj];exact List.Perm.refl _
  ·refine ((Tp _ _).map Bk.id).trans ?_;rw [List.map_cons,<-List.append_assoc];refine (List.Perm.cons _ ih.ids).trans ?_;exact (List.perm_append_singleton _ _).symm
  rcases UO d with e | d
  ·refine Or.inr ⟨?_,bk a j,k,?_⟩
   ·rw [e];simp
   rw [e];exact ⟨rfl,rfl,z⟩
  rcases ih.each y d with e | ⟨o,p⟩
  ·exact Or.inl e
  exact Or.inr ⟨List.mem_append_left _ o,p⟩
 | @dropped j b mv dr hs hj hr ih =>
  refine ⟨ih.sound,hj,?_,ih.ids,ih.each⟩;rw [List.take_succ_eq_append_getElem hj,List.map_append,<-List.append_assoc];refine (ih.told.append_right _).trans ?_;rw [wI hj];exact List.Perm.refl _
theorem L4 {b:BL} (h:(b.map Bk.id).Nodup) {x y:Bk} (k:x∈b) (l:y∈b) (e:x.id=y.id):x=y:=by
 obtain ⟨i,d,rfl⟩:=List.getElem_of_mem k;obtain ⟨j,f,rfl⟩:=List.getElem_of_mem l;have c:=List.pairwise_iff_getElem.1 h;by_cases a:i=j
 ·subst a;rfl
 exfalso;rcases Nat.lt_or_gt_of_ne a with g | g
 ·have:=c i j (by simpa using d) (by simpa using f) g;simp only [List.getElem_map] at this;exact this e
 have:=c j i (by simpa using f) (by simpa using d) g;simp only [List.getElem_map] at this;exact this e.symm
structure CutFacts (c n:Int) (l:QL) (b0 b:BL) (mv dr:List Int):Prop where
 sound:Sound c n l b
 len:b.length+dr.length=b0.length
 few:mv.length<=12/\dr.length<=12
 each:∀ X∈b0,(mv.count X.id=0/\dr.count X.id=0/\X∈b)\/(mv.count X.id=1/\dr.count X.id=0/\∃ Y∈b,LC c X Y)\/(mv.count X.id=0/\dr.count X.id=1/\∀ Y∈b,Y.id≠X.id)
theorem Q5 {c n:Int} {l:QL} {i b1 k b:BL} {mv dr:List Int} (t:Clean l i) (A:0<=c) (c1:c<=48) (ae:0<=n) (af:n<=1048576) (H:Up i) (O:∀ x∈i,0<=x.id/\x.id<n) (C:∀ x∈i,c<yA x) (h:Lit c l i b1 k) (o:∀ u,c<=u->u<48->∀ q,q<l.length->yw l b1 u q=false) (G:Stl c l b1 k k.length b mv dr):CutFacts c n l i b mv dr:=by
 obtain ⟨S,am⟩:=h.all t A H;obtain ⟨aj,ak,R,al⟩:=h.clean t A;have L:(b1.map Bk.id++k.map Bk.id).Nodup:=by
  rw [<-List.map_append];exact (S.map Bk.id).nodup_iff.2 H.nodup
 have ag:=t.few;have F:=G.facts (n:=n) (h.sound t A c1 ae af H O C o) (fun x J=>by
  obtain ⟨j,Z,e⟩:=yT (R x J);rw [<-e];exact t.each j Z) (fun x J=>O x (R x J)) L (by omega)
 have v:=F.told;rw [List.take_length] at v;have ai:mv.length+dr.length=k.length:=by
  have:=v.length_eq;simpa using this
 have ah:b.length=b1.length+mv.length:=by
  have:=F.ids.length_eq;simpa using this
 have r:=List.nodup_append.1 L;have aa:(mv++dr).Nodup:=v.nodup_iff.2 r.2.1;have w:=List.nodup_append.1 aa;have Y:∀ X∈i,X∈b1\/X∈k:=fun X B=>List.mem_append.1 (S.symm.subset B);have M:∀ {s:List Int} {a:Int},s.Nodup->a∈s->s.count a=1:=fun G C=>by
  have p:=List.nodup_iff_count.1 G;have m:=List.count_pos_iff.2 C;exact Nat.le_antisymm (p _) m
 refine ⟨F.sound,by omega,by omega,fun X B=>?_⟩;rcases Y X B with D | I
 ·have o:X.id∉mv++dr:=fun e=>by
   exact r.2.2 _ (List.mem_map_of_mem D) _ (v.subset e) rfl
  rw [List.mem_append,not_or] at o;refine Or.inl ⟨List.count_eq_zero.2 o.1,List.count_eq_zero.2 o.2,?_⟩;have p:=F.ids.symm.subset (List.mem_append_left mv (List.mem_map_of_mem (f:=Bk.id) D));obtain ⟨y,d,e⟩:=List.mem_map.1 p;rcases F.each y d with g | ⟨g,_⟩
  ·rw [<-L4 r.1 g D e];exact d
  ·rw [e] at g;exact absurd g o.1
 have p:X.id∈mv++dr:=v.symm.subset (List.mem_map_of_mem I);have P:∀ y∈b1,y.id≠X.id:=fun y d e=>r.2.2 _ (List.mem_map_of_mem d) _ (List.mem_map_of_mem I) e;rcases List.mem_append.1 p with E | N
 ·have ab:X.id∉dr:=fun e=>w.2.2 _ E _ e rfl;refine Or.inr (Or.inl ⟨M w.1 E,List.count_eq_zero.2 ab,?_⟩);have m:=F.ids.symm.subset (List.mem_append_right (b1.map Bk.id) E);obtain ⟨y,d,e⟩:=List.mem_map.1 m;rcases F.each y d with g | ⟨_,U,W,g⟩
  ·exact absurd e (P y g)
  have:U=X:=L4 r.2.1 W I (g.1.symm.trans e);rw [this] at g;exact ⟨y,d,g⟩
 have Q:X.id∉mv:=fun e=>w.2.2 _ e _ N rfl;refine Or.inr (Or.inr ⟨List.count_eq_zero.2 Q,M w.2.1 N,fun y d e=>?_⟩);have m:=F.ids.subset (List.mem_map_of_mem (f:=Bk.id) d);rw [e] at m;rcases List.mem_append.1 m with g | g
 ·obtain ⟨z,ad,V⟩:=List.mem_map.1 g;exact P z ad V
 exact Q g
theorem Stl.ids {c:Int} {l:QL} {b1 d b:BL} {j:Nat} {mv dr:List Int} (h:Stl c l b1 d j b mv dr):∀ i,i∈mv\/i∈dr->∃ x∈d,x.id=i:=by
 induction h with
 | start=>intro i a;rcases a with a | a <;> cases a
 | moved _ hj _ ih =>
  intro i a;rw [List.mem_append,List.mem_singleton] at a;rcases a with (a | a) | a
  ·exact ih i (Or.inl a)
  ·exact ⟨_,yx hj,a.symm⟩
  exact ih i (Or.inr a)
 | dropped _ hj _ ih =>
  intro i a;rw [List.mem_append,List.mem_singleton] at a;rcases a with a | a | a
  ·exact ih i (Or.inl a)
  ·exact ih i (Or.inr a)
  exact ⟨_,yx hj,a.symm⟩
theorem Stl.nil {c:Int} {l:QL} {b1 b:BL} {mv dr:List Int} (h:Stl c l b1 [] 0 b mv dr):b=b1/\mv=[]/\dr=[]:=by
 cases h
 exact ⟨rfl,rfl,rfl⟩
end Go.Proofs.YtckpdfkobdgjeaaGreatDoor
