package tests

import (
	"math"
	"slices"
	"testing"

	"loop.example/selvedge/impl"
)

// farCounts are counts that no term of any operator has.
var farCounts = []int{-1, -2, -60, math.MinInt32, math.MinInt + 1, math.MinInt, 61, 100, impl.FldP, math.MaxInt32, math.MaxInt - 1, math.MaxInt}

func slopesOf(m impl.MonMon) int { return m.D + m.E }

func factorsOf(m impl.MonMon) int { return m.X + m.Y + m.D + m.E }

// plainMost is the most that is counted in a term of an operator that is ok; -1 of 0.
func plainMost(p []impl.PolTerm, count func(impl.MonMon) int) int {
	most := -1
	for _, term := range p {
		most = max(most, count(term.M))
	}
	return most
}

// plainWith are the terms in which just so many are counted, in order.
func plainWith(p []impl.PolTerm, count func(impl.MonMon) int, n int) []impl.PolTerm {
	return slices.DeleteFunc(slices.Clone(p), func(term impl.PolTerm) bool { return count(term.M) != n })
}

// wantTops asks all tops of an operator that is ok for what they are without the program.
func wantTops(t *testing.T, p []impl.PolTerm) {
	t.Helper()
	order, degree := plainMost(p, slopesOf), plainMost(p, factorsOf)
	wantInt(t, impl.FilOrder(p), order, "FilOrder of "+plainText(p))
	wantInt(t, impl.FilDegree(p), degree, "FilDegree of "+plainText(p))
	wantPol(t, impl.FilSymbol(p), plainWith(p, slopesOf, order), "FilSymbol of "+plainText(p))
	for n := -1; n <= degree+2; n++ {
		wantPol(t, impl.FilPart(p, n), plainWith(p, factorsOf, n), "FilPart of "+plainText(p))
	}
}

func TestFilIsWhatItsTermsSay(t *testing.T) {
	for _, p := range append(somePols(), someForms()...) {
		wantTops(t, p)
	}
	for _, m := range someMons() {
		wantTops(t, impl.PolOf(3, m))
	}
}

func TestFilOrderOfBothSlopes(t *testing.T) {
	for d := range impl.MonMax + 1 {
		for e := range impl.MonMax + 1 {
			for _, m := range []impl.MonMon{{D: d, E: e}, {X: 1, D: d, E: e}, {X: 15, Y: 15, D: d, E: e}} {
				wantInt(t, impl.FilOrder(impl.PolOf(1, m)), d+e, "FilOrder of D and E", d, e)
				wantInt(t, impl.FilDegree(impl.PolOf(1, m)), m.X+m.Y+d+e, "FilDegree of D and E", d, e)
			}
		}
	}
}

func TestFilOfNothingAndNumbers(t *testing.T) {
	for _, none := range [][]impl.PolTerm{nil, {}} {
		wantInt(t, impl.FilOrder(none), -1, "FilOrder of 0")
		wantInt(t, impl.FilDegree(none), -1, "FilDegree of 0")
		wantPol(t, impl.FilSymbol(none), nil, "FilSymbol of 0")
		for _, n := range append([]int{0, 1}, farCounts...) {
			wantPol(t, impl.FilPart(none, n), nil, "FilPart of 0")
		}
	}
	for c := 1; c < impl.FldP; c++ {
		number := impl.PolOf(c, impl.MonMon{})
		wantInt(t, impl.FilOrder(number), 0, "FilOrder of a number", c)
		wantInt(t, impl.FilDegree(number), 0, "FilDegree of a number", c)
		wantPol(t, impl.FilSymbol(number), number, "FilSymbol of a number")
		wantPol(t, impl.FilPart(number, 0), number, "FilPart 0 of a number")
		wantPol(t, impl.FilPart(number, 1), nil, "FilPart 1 of a number")
		wantPol(t, impl.FilPart(number, -1), nil, "FilPart -1 of a number")
	}
}

// Where the top begins: at the term with the most slopes, wherever that stands.
func TestFilByHand(t *testing.T) {
	for _, c := range []struct {
		p      string
		order  int
		degree int
		symbol string
	}{
		{"0", -1, -1, "0"}, {"1", 0, 0, "1"}, {"x", 0, 1, "x"}, {"x15y15+x+7", 0, 30, "x15y15+x+7"},
		{"d", 1, 1, "d"}, {"e", 1, 1, "e"}, {"de", 2, 2, "de"}, {"d2", 2, 2, "d2"}, {"e2", 2, 2, "e2"},
		{"d15", 15, 15, "d15"}, {"e15", 15, 15, "e15"}, {"d15e15", 30, 30, "d15e15"}, {"x15y15d15e15", 30, 60, "x15y15d15e15"},
		// At the first term, amid them, or at the last one.
		{"2xd+y+100", 1, 2, "2xd"}, {"x3d+d2+xe", 2, 4, "d2"}, {"x5+y4+2e", 1, 5, "2e"}, {"x15+x14y+d", 1, 15, "d"},
		// Several have the most, beside each other or not, some with D, some with E, some with both.
		{"d+5e+x", 1, 1, "d+5e"}, {"x3+xd+3e", 1, 3, "xd+3e"}, {"x2d2+xde+7ye2+e", 2, 4, "x2d2+xde+7ye2"}, {"xde+x3+d2+de+e2+y2+d", 2, 3, "xde+d2+de+e2"},
		{"d3+xd2+xde+3e3", 3, 3, "d3+3e3"}, {"x9d+x4e5+x8+d4e+2d3e2+y", 5, 10, "x4e5+d4e+2d3e2"},
		// More of D alone, of E alone, or of all four is not more of D and E together.
		{"d2e2+d3", 4, 4, "d2e2"}, {"d2e2+e3", 4, 4, "d2e2"}, {"x9d3+de3+d2e", 4, 12, "de3"}, {"y9e3+d3e", 4, 12, "d3e"}, {"x9d2+x9e+de2", 3, 11, "de2"},
	} {
		p := op(t, c.p)
		wantInt(t, impl.FilOrder(p), c.order, "FilOrder of "+c.p)
		wantInt(t, impl.FilDegree(p), c.degree, "FilDegree of "+c.p)
		wantPol(t, impl.FilSymbol(p), op(t, c.symbol), "FilSymbol of "+c.p)
	}
}

func TestFilPartByHand(t *testing.T) {
	p := "x2de+x3d+7x4+d2+xe+2y+100"
	for n, want := range []string{"100", "2y", "d2+xe", "0", "x2de+x3d+7x4", "0", "0"} {
		wantPol(t, impl.FilPart(op(t, p), n), op(t, want), "FilPart of "+p)
	}
	for _, n := range farCounts {
		wantPol(t, impl.FilPart(op(t, p), n), nil, "FilPart of "+p)
	}
	great := "x15y15d15e15"
	wantPol(t, impl.FilPart(op(t, great), 60), op(t, great), "FilPart 60 of "+great)
	wantPol(t, impl.FilPart(op(t, great), 59), nil, "FilPart 59 of "+great)
}

// P32
func TestFilSymbol(t *testing.T) {
	for _, p := range somePols() {
		order, symbol := impl.FilOrder(p), impl.FilSymbol(p)
		if (len(symbol) == 0) != (len(p) == 0) {
			t.Fatalf("FilSymbol of %v is %v", p, symbol)
		}
		place := 0
		for _, term := range p {
			if place < len(symbol) && symbol[place] == term {
				wantInt(t, term.M.D+term.M.E, order, "slopes of FilSymbol")
				place++
			} else if term.M.D+term.M.E >= order {
				t.Fatalf("FilSymbol of %v is %v, without %v", p, symbol, term)
			}
		}
		wantInt(t, len(symbol), place, "terms of FilSymbol")
		wantPol(t, impl.FilSymbol(symbol), symbol, "FilSymbol of FilSymbol")
	}
}

// P33
func TestFilParts(t *testing.T) {
	for _, p := range append(somePols(), someForms()...) {
		var sum []impl.PolTerm
		degree := impl.FilDegree(p)
		for n := 0; n <= degree; n++ {
			part := impl.FilPart(p, n)
			for _, term := range part {
				wantInt(t, impl.MonDeg(term.M), n, "MonDeg in FilPart", n)
			}
			sum = must(t)(impl.PolAdd(sum, part))
		}
		wantPol(t, sum, p, "all FilParts together")
		if degree >= 0 && len(impl.FilPart(p, degree)) == 0 {
			t.Fatalf("FilPart %d of %v is 0", degree, p)
		}
		for _, n := range append([]int{degree + 1, degree + 2, degree + 60}, farCounts...) {
			wantPol(t, impl.FilPart(p, n), nil, "FilPart beyond FilDegree")
		}
	}
}

// P34
func TestFilOfSums(t *testing.T) {
	tops := map[string]func(p []impl.PolTerm) int{"FilOrder": impl.FilOrder, "FilDegree": impl.FilDegree}
	wantSum := func(a []impl.PolTerm, b []impl.PolTerm, sum []impl.PolTerm) {
		t.Helper()
		for name, top := range tops {
			greater := max(top(a), top(b))
			if top(sum) > greater || top(a) != top(b) && top(sum) != greater {
				t.Fatalf("%s of %v and %v is %d, together %d", name, a, b, greater, top(sum))
			}
		}
	}
	pols := somePols()
	for _, a := range pols {
		for _, b := range pols {
			if sum, ok := impl.PolAdd(a, b); ok {
				wantSum(a, b, sum)
			}
		}
	}
	// The tops take each other away.
	for _, c := range []struct {
		a, b   string
		order  int
		degree int
	}{{"d2+x", "100d2+e", 1, 1}, {"d2+x", "100d2+3", 0, 1}, {"x9+de+1", "100x9+100de", 0, 0}, {"d", "100d", -1, -1}, {"x5+d", "2x5+100d", 0, 5}} {
		a, b := op(t, c.a), op(t, c.b)
		sum := must(t)(impl.PolAdd(a, b))
		wantSum(a, b, sum)
		wantInt(t, impl.FilOrder(sum), c.order, "FilOrder of "+c.a+" and "+c.b)
		wantInt(t, impl.FilDegree(sum), c.degree, "FilDegree of "+c.a+" and "+c.b)
	}
}

// P20
func TestFilOfProducts(t *testing.T) {
	tries(t, 20, 500, func(d *dice, most int) bool {
		a, b := d.pol(6, most), d.pol(6, most)
		product, ok := impl.WylMul(a, b)
		if !ok || len(a) == 0 || len(b) == 0 {
			return false
		}
		wantInt(t, impl.FilOrder(product), impl.FilOrder(a)+impl.FilOrder(b), "FilOrder of WylMul")
		wantInt(t, impl.FilDegree(product), impl.FilDegree(a)+impl.FilDegree(b), "FilDegree of WylMul")
		return true
	})
	for _, c := range [][2]string{{"d15", "x15"}, {"d15e15", "x15y15"}, {"x15y15", "d15e15"}, {"x7d8", "x8d7"}, {"3", "5"}, {"d", "7"}, {"x9+d", "x6+e"}} {
		product := must(t)(impl.WylMul(op(t, c[0]), op(t, c[1])))
		wantInt(t, impl.FilOrder(product), impl.FilOrder(op(t, c[0]))+impl.FilOrder(op(t, c[1])), "FilOrder of "+c[0]+" times "+c[1])
		wantInt(t, impl.FilDegree(product), impl.FilDegree(op(t, c[0]))+impl.FilDegree(op(t, c[1])), "FilDegree of "+c[0]+" times "+c[1])
	}
	// With 0 on one side there is nothing to put together.
	wantInt(t, impl.FilOrder(must(t)(impl.WylMul(nil, op(t, "d3")))), -1, "FilOrder of 0 times d3")
	wantInt(t, impl.FilDegree(must(t)(impl.WylMul(op(t, "x3"), nil))), -1, "FilDegree of x3 times 0")
}

// P4
func TestFilSymbolOfProducts(t *testing.T) {
	wantTopCommutes := func(a []impl.PolTerm, b []impl.PolTerm) bool {
		t.Helper()
		if product, ok := impl.WylMul(a, b); ok {
			wantPol(t, impl.FilSymbol(product), must(t)(impl.ComMul(impl.FilSymbol(a), impl.FilSymbol(b))), "FilSymbol of WylMul")
		}
		apart, ok := impl.WylApart(a, b)
		if !ok || len(a) == 0 || len(b) == 0 {
			return false
		}
		if impl.FilOrder(apart) >= impl.FilOrder(a)+impl.FilOrder(b) {
			t.Fatalf("FilOrder of WylApart of %v and %v is %d", a, b, impl.FilOrder(apart))
		}
		return true
	}
	tries(t, 40, 500, func(d *dice, most int) bool {
		return wantTopCommutes(d.pol(6, most), d.pol(6, most))
	})
	for _, c := range [][2]string{{"d", "x"}, {"d15e15", "x15y15"}, {"x3d+d2+xe", "x2+d+e"}, {"d+e", "d+100e"}, {"x", "y"}, {"3", "x"}, {"d7", "x7d7"}, {"0", "d"}, {"x", "0"}} {
		wantTopCommutes(op(t, c[0]), op(t, c[1]))
		wantTopCommutes(op(t, c[1]), op(t, c[0]))
	}
	for _, b := range [][]impl.PolTerm{rows(199, 1), rows(200, 0), rows(200, 100), manyTerms(12)} {
		for _, a := range []string{"x4+1", "e+1", "e4+x4", "d"} {
			wantTopCommutes(op(t, a), b)
			wantTopCommutes(b, op(t, a))
		}
	}
}

// P23
func TestFilPartsAreCounted(t *testing.T) {
	counts := op(t, "xd+ye")
	for _, f := range someForms() {
		for n := 0; n <= 2*impl.MonMax+1; n++ {
			part := impl.FilPart(f, n)
			wantPol(t, must(t)(impl.WylDo(counts, part)), impl.PolScale(n, part), "what xd+ye makes of FilPart")
		}
	}
	part := impl.FilPart(op(t, "x15y15+5x3y+2y4+x2+9"), 4)
	wantPol(t, must(t)(impl.WylDo(counts, part)), op(t, "20x3y+8y4"), "what xd+ye makes of 5x3y+2y4")
}

// P71
func TestPolFreeByFilOrder(t *testing.T) {
	pols := append(somePols(), someForms()...)
	for _, p := range pols {
		if impl.PolFree(p) != (impl.FilOrder(p) < 1) {
			t.Fatalf("PolFree of %v is %v, FilOrder %d", p, impl.PolFree(p), impl.FilOrder(p))
		}
	}
	for _, text := range []string{"d", "e", "de", "e+x", "x15y15+d", "x15y15e15", "3d+2e"} {
		if impl.PolFree(op(t, text)) || impl.FilOrder(op(t, text)) < 1 {
			t.Fatalf("%s is a form", text)
		}
	}
	for _, f := range someForms() {
		for _, g := range someForms() {
			sum := must(t)(impl.PolAdd(f, g))
			if !impl.PolFree(sum) || impl.FilOrder(sum) > 0 {
				t.Fatalf("the sum of two forms is none: %v", sum)
			}
		}
	}
}

func TestFilWrong(t *testing.T) {
	for _, bad := range allBadPols() {
		wantInt(t, impl.FilOrder(bad), -1, "FilOrder of what is not ok")
		wantInt(t, impl.FilDegree(bad), -1, "FilDegree of what is not ok")
		wantPol(t, impl.FilSymbol(bad), nil, "FilSymbol of what is not ok")
		for _, n := range append([]int{0, 1, 2, 15, 16, 17, 60}, farCounts...) {
			wantPol(t, impl.FilPart(bad, n), nil, "FilPart of what is not ok")
		}
		if impl.PolFree(bad) {
			t.Fatalf("PolFree of %v is true", bad)
		}
		for _, other := range [][]impl.PolTerm{nil, {}, op(t, "1"), op(t, "x"), op(t, "2xd+y+100"), bad} {
			p, ok := impl.ComMul(bad, other)
			wantNothing(t, p, ok, "ComMul of what is not ok")
			p, ok = impl.ComMul(other, bad)
			wantNothing(t, p, ok, "ComMul with what is not ok")
		}
	}
}

func TestFilNewMemory(t *testing.T) {
	d := dice(66)
	calls := map[string]func(a []impl.PolTerm, b []impl.PolTerm) []impl.PolTerm{
		"FilSymbol":       func(a, b []impl.PolTerm) []impl.PolTerm { return impl.FilSymbol(a) },
		"FilSymbol twice": func(a, b []impl.PolTerm) []impl.PolTerm { return impl.FilSymbol(impl.FilSymbol(a)) },
		"FilPart 0":       func(a, b []impl.PolTerm) []impl.PolTerm { return impl.FilPart(a, 0) },
		"FilPart, the greatest": func(a, b []impl.PolTerm) []impl.PolTerm {
			return impl.FilPart(a, impl.FilDegree(a))
		},
		"FilPart, less": func(a, b []impl.PolTerm) []impl.PolTerm {
			impl.FilOrder(b)
			return impl.FilPart(a, impl.FilDegree(a)-1)
		},
		"ComMul":        func(a, b []impl.PolTerm) []impl.PolTerm { p, _ := impl.ComMul(a, b); return p },
		"ComMul by 1":   func(a, b []impl.PolTerm) []impl.PolTerm { p, _ := impl.ComMul(a, []impl.PolTerm{{C: 1}}); return p },
		"ComMul of 1":   func(a, b []impl.PolTerm) []impl.PolTerm { p, _ := impl.ComMul([]impl.PolTerm{{C: 1}}, a); return p },
		"ComMul of one": func(a, b []impl.PolTerm) []impl.PolTerm { p, _ := impl.ComMul(a, a); return p },
	}
	pols := [][]impl.PolTerm{nil, {}, op(t, "1"), op(t, "x"), op(t, "de"), op(t, "d2+de+e2"), op(t, "x5+d"), manyTerms(256), manyTerms(impl.PolMax), manyTerms(impl.PolMax + 1)}
	for range 30 {
		pols = append(pols, d.pol(6, 2), d.pol(20, 3), d.form(8, 5))
	}
	for place, p := range pols {
		for name, call := range calls {
			wantNewMemory(t, p, pols[(place+1)%len(pols)], name, call)
		}
	}
}
