package parse_test

import "strings"

// forms are statements: each rule of the grammar in each of its forms.
func forms() []string {
	return []string{
		"var x int", "var x bool=a", "var x chan<- <-chan(Mutex)", "var x<-chan chan WaitGroup=nil",
		"x:=1", "x:=<-c", "x:=(<-c)", "x,y:=<-c", "x,_:=<-<-c", "_,x:=<-(c)", "x=1", "_=f()", "x=<-c", "x,y=<-c", "_,_=<-c.Lock()",
		"x++", "x--", "c<-1", "c<- -a", "<-c<-<-d", "(c)<-(d)", "1+a<-b",
		"f()", "(f())", "f(1,a)", "<-c", "((<-c))", "<-(-c)", "m.Lock()", "(m.Unlock())", "(m).Add(1,a).Done()", "make(Mutex).Wait()", "1.Lock()", "(a+b).Lock()",
		"if a{}", "if a{x++}else{y--}", "if a{}else if b{}", "if a{}else if b{f();}else{;}", "if(a){{}}",
		"for{}", "for a{}", "for f(){break}", "for <-c{;continue;}", "for x:=1;x<2;x++{}", "for;;{}", "for;a;{}", "for f();;{}", "for <-c;a;c<-1{}", "for(f());;(m.Lock()){}",
		"for x,_:=<-c;;_,_=<-c{}", "for x--;;x,y=<-c{}", "for c<-1;;x--{}", "for x=1;;_=2{}", "for _,_=<-c;;<-c{}",
		"for range c{}", "for x:=range c{}", "for x=range<-c{}", "for x=range(c){f()}",
		"switch{}", "switch a{}", "switch a{case 1,2:;f();case(a),b:default:f()}", "switch{default:case a:x++;}", "switch f(){case <-c:return case a:default:break;;case b:}",
		"select{}", "select{default:}", "select{case c<-1:f();case<-c:case(<-c):;case((<-c)):}", "select{default:;case x:=<-c:case x=<-c:case _=<-c:}",
		"select{case x,_:=<-c:case _,x:=<-c:case x,y=<-c:case _,_=<-c:f()default:}", "select{case<-c<-1:case f()<-<-c:case x.Wait()+1<-2:case(<-c)<-a:}",
		"go f()", "go f(1,(a),<-c)", "{}", "{;f();}", "return", "return a", "return(a)", "return-1", "break", "continue",
		"x=a||b&&c==d!=e", "x=a<b<=c>d>=e", "x=a+b-c*d/e%f", "x=- + ! <-(-c.Lock())", "x=(a+b)*(c)-(((d)))", "x=true||false", "x=nil", "x=-(-1)", "x=(<-c).Lock(1)+f().Done()",
		"println()", `println("a")`, `println(1,"b",c)`, `println("\n\t\\\"","")`, "close(c)", "yield()", "x=len(c)+cap(c,1)", "len()", "(cap(a))", "x=make(int)", "x=make(chan int,1+2)",
	}
}

// sources are whole sources, the forms among them.
func sources() []string {
	l := []string{
		"", ";;\n;", "func f(){}", "\n;func f(){};;\nfunc g(){}\n;func h(){};",
		"func f(a int)bool{return a==1}", "func f(a chan int,b chan<-Mutex,c<-chan(WaitGroup))(<-chan int){}\n", "func f()chan chan<- <-chan chan(<-chan bool){;}",
		"func f()((chan((int)))){f()\nx=1\n;\n}\n",
	}
	for _, stmt := range forms() {
		l = append(l, "func f(){"+stmt+"}", "func f(){switch{case a:;"+stmt+";f();}}")
	}
	return l
}

// allForms is a source with all forms.
func allForms() string {
	return ";func f(){};func g(a int,b chan<-bool)(<-chan int){\n" + strings.Join(forms(), "\n") + "\n};;func h(){{" + strings.Join(forms(), ";") + "}}\n"
}
