package tests

import (
	"slices"
	"testing"

	"loop.example/selvedge/impl"
)

// couple is a pair of two operators, worked out without the program; it goes on past the bounds, so that a test can tell which of them it met.
type couple struct {
	factors  [2]impl.PolTerm
	products [2]ways
	rest     []impl.PolTerm
}

func (c couple) ok() bool {
	return c.products[0].ok() && c.products[1].ok() && len(c.rest) <= impl.PolMax
}

func plainBoth(a impl.MonMon, b impl.MonMon) impl.MonMon {
	return impl.MonMon{X: max(a.X, b.X), Y: max(a.Y, b.Y), D: max(a.D, b.D), E: max(a.E, b.E)}
}

// plainCouple is the pair of two that are ok and not 0.
func plainCouple(order int, a []impl.PolTerm, b []impl.PolTerm) couple {
	var c couple
	leads := []impl.MonMon{plainLead(order, numbersOf(a)), plainLead(order, numbersOf(b))}
	both := plainBoth(leads[0], leads[1])
	for side, p := range [][]impl.PolTerm{a, b} {
		lead := leads[side]
		c.factors[side] = impl.PolTerm{
			C: plainQuotient(1, numbersOf(p)[lead]),
			M: impl.MonMon{X: both.X - lead.X, Y: both.Y - lead.Y, D: both.D - lead.D, E: both.E - lead.E},
		}
		c.products[side] = plainWays(c.factors[side:side+1], p)
	}
	c.rest = plainSum(fromNumbers(c.products[0].sum), -1, fromNumbers(c.products[1].sum))
	return c
}

// wantCouple asks SprTerms and SprPoly for what they are without the program, and tells that.
func wantCouple(t *testing.T, order int, a []impl.PolTerm, b []impl.PolTerm) couple {
	t.Helper()
	want := plainCouple(order, a, b)
	first, second, ok := impl.SprTerms(order, a, b)
	if !ok || first != want.factors[0] || second != want.factors[1] {
		t.Fatalf("SprTerms(%d) of %s and %s is %v, %v, %v", order, plainText(a), plainText(b), first, second, ok)
	}
	rest, ok := impl.SprPoly(order, a, b)
	if ok != want.ok() {
		t.Fatalf("SprPoly(%d) of %s and %s is %v; it has %d terms", order, plainText(a), plainText(b), ok, len(want.rest))
	}
	if ok {
		wantPol(t, rest, want.rest, "SprPoly of "+plainText(a)+" and "+plainText(b))
	} else {
		wantNothing(t, rest, ok, "SprPoly")
	}
	return want
}

// wantNoCouple asks SprTerms and SprPoly for their answers at what is not ok.
func wantNoCouple(t *testing.T, order int, a []impl.PolTerm, b []impl.PolTerm, name string) {
	t.Helper()
	first, second, ok := impl.SprTerms(order, a, b)
	if ok || first != (impl.PolTerm{}) || second != (impl.PolTerm{}) {
		t.Fatalf("SprTerms with %s is %v, %v, %v", name, first, second, ok)
	}
	rest, ok := impl.SprPoly(order, a, b)
	wantNothing(t, rest, ok, "SprPoly with "+name)
}

// some rolls an operator that is not 0.
func (d *dice) some(terms int, most int) []impl.PolTerm {
	for {
		if p := d.pol(terms, most); len(p) > 0 {
			return p
		}
	}
}

func TestSprIsWhatItsProductsSay(t *testing.T) {
	seen := map[int]int{}
	tries(t, 8, 500, func(d *dice, most int) bool {
		order := allOrders[d.roll(3)]
		ok := wantCouple(t, order, d.some(5, most), d.some(5, most)).ok()
		if ok {
			seen[order]++
		}
		return ok
	})
	for _, order := range allOrders {
		if seen[order] < 100 {
			t.Fatalf("only %d pairs in order %d", seen[order], order)
		}
	}
}

// P42
func TestSprTermsComeTogether(t *testing.T) {
	tries(t, 42, 1200, func(d *dice, most int) bool {
		order, a, b := allOrders[d.roll(3)], d.some(5, most), d.some(5, most)
		first, second, ok := impl.SprTerms(order, a, b)
		if !ok {
			t.Fatalf("SprTerms(%d) of %s and %s is false", order, plainText(a), plainText(b))
		}
		leadA, _ := impl.PolLead(order, a)
		leadB, _ := impl.PolLead(order, b)
		both := impl.MonBoth(leadA.M, leadB.M)
		for _, c := range [][2]impl.PolTerm{{first, leadA}, {second, leadB}} {
			m, ok := impl.MonMul(c[0].M, c[1].M)
			if !ok || m != both || impl.FldMul(c[0].C, c[1].C) != 1 {
				t.Fatalf("SprTerms(%d) of %s and %s: %v times %v is not 1 times %v", order, plainText(a), plainText(b), c[0], c[1], both)
			}
		}
		f, s := first.M, second.M
		if min(f.X, s.X) > 0 || min(f.Y, s.Y) > 0 || min(f.D, s.D) > 0 || min(f.E, s.E) > 0 {
			t.Fatalf("SprTerms(%d) of %s and %s: a factor stands in both %v and %v", order, plainText(a), plainText(b), f, s)
		}
		return true
	})
}

// P43
func TestSprPolyIsLess(t *testing.T) {
	tries(t, 43, 500, func(d *dice, most int) bool {
		order, a, b := allOrders[d.roll(3)], d.some(5, most), d.some(5, most)
		wantPol(t, must(t)(impl.SprPoly(order, a, a)), nil, "SprPoly of one and itself")
		wantPol(t, must(t)(impl.SprPoly(order, a, impl.PolScale(7, a))), nil, "SprPoly of one and so many times it")
		rest, ok := impl.SprPoly(order, a, b)
		other, otherOk := impl.SprPoly(order, b, a)
		if ok != otherOk {
			t.Fatalf("SprPoly(%d) of %s and %s is %v, the other way round %v", order, plainText(a), plainText(b), ok, otherOk)
		}
		wantPol(t, other, impl.PolScale(impl.FldP-1, rest), "SprPoly the other way round")
		leadA, _ := impl.PolLead(order, a)
		leadB, _ := impl.PolLead(order, b)
		both := impl.MonBoth(leadA.M, leadB.M)
		for _, term := range rest {
			if impl.MonCmp(order, term.M, both) >= 0 {
				t.Fatalf("SprPoly(%d) of %s and %s has %v", order, plainText(a), plainText(b), term)
			}
		}
		return ok
	})
}

func TestSprByHand(t *testing.T) {
	for _, c := range []struct {
		order         int
		a, b          string
		first, second string
		rest          string
	}{
		{impl.OrdDeg, "d", "x", "x", "d", "100"}, {impl.OrdLex, "d", "x", "x", "d", "100"}, {impl.OrdOut, "d", "x", "x", "d", "100"},
		{impl.OrdDeg, "x", "d", "d", "x", "1"}, {impl.OrdDeg, "y", "e", "e", "y", "1"}, {impl.OrdDeg, "x", "e", "e", "x", "0"}, {impl.OrdDeg, "d", "e", "e", "d", "0"},
		// The greatest monomials share no factor.
		{impl.OrdDeg, "d2+y", "x2", "x2", "d2", "x2y+99+97xd"}, {impl.OrdLex, "y+1", "e+x", "e", "y", "e+1+100xy"},
		// One greatest monomial, with other numbers.
		{impl.OrdDeg, "2d+x", "3d+y", "51", "34", "51x+67y"}, {impl.OrdDeg, "xd+1", "xd", "1", "1", "1"}, {impl.OrdDeg, "xd", "xd", "1", "1", "0"},
		{impl.OrdDeg, "5", "7x", "81x", "29", "0"}, {impl.OrdDeg, "1", "1", "1", "1", "0"}, {impl.OrdDeg, "100", "100", "100", "100", "0"},
		// The one divides the other one.
		{impl.OrdDeg, "xd+y", "d+1", "1", "x", "y+100x"}, {impl.OrdDeg, "d+1", "xd+y", "x", "1", "x+100y"}, {impl.OrdDeg, "d2+1", "d+x", "1", "d", "100xd"},
		// Some factors are the same.
		{impl.OrdDeg, "xd+1", "xe+1", "e", "d", "100d"}, {impl.OrdDeg, "x2y+1", "xy2+1", "y", "x", "y+100x"}, {impl.OrdLex, "de+x", "d2", "d", "e", "xd+1"},
		// Which is the greatest hangs on the order.
		{impl.OrdDeg, "x2+d", "x", "1", "x", "d"}, {impl.OrdLex, "x2+d", "x", "x", "d", "x3+100"}, {impl.OrdOut, "x2+d", "x", "1", "x", "d"},
		{impl.OrdDeg, "e+x", "e", "1", "1", "x"}, {impl.OrdLex, "e+x", "e", "1", "1", "x"}, {impl.OrdOut, "e+x", "e", "e", "x", "e2"},
		{impl.OrdDeg, "y3+x", "y", "1", "y2", "x"}, {impl.OrdLex, "y3+x", "y", "y", "x", "y4"}, {impl.OrdOut, "y3+x", "y", "y", "x", "y4"},
	} {
		a, b := loose(t, c.a), loose(t, c.b)
		first, second, ok := impl.SprTerms(c.order, a, b)
		if !ok || first != op(t, c.first)[0] || second != op(t, c.second)[0] {
			t.Fatalf("SprTerms(%d) of %s and %s is %v, %v, %v", c.order, c.a, c.b, first, second, ok)
		}
		wantPol(t, must(t)(impl.SprPoly(c.order, a, b)), loose(t, c.rest), "SprPoly of "+c.a+" and "+c.b)
		wantCouple(t, c.order, a, b)
	}
}

// SprTerms is true also where its products are past MonMax; SprPoly is not.
func TestSprAtMonMax(t *testing.T) {
	for _, c := range []struct {
		order         int
		a, b          string
		first, second bool // whether that product is past MonMax
	}{
		{impl.OrdDeg, "x15y15d15e15", "1", false, false}, {impl.OrdDeg, "d15", "x15", false, false}, {impl.OrdDeg, "x15y15", "d15e15", false, false},
		{impl.OrdLex, "d+x15", "x+1", true, false}, {impl.OrdLex, "x+1", "d+x15", false, true}, {impl.OrdLex, "d+x14", "x+1", false, false},
		{impl.OrdLex, "d+y15", "y+1", true, false}, {impl.OrdLex, "y+1", "d+y15", false, true}, {impl.OrdLex, "d+y14", "y+1", false, false},
		{impl.OrdOut, "x+e15", "e+1", true, false}, {impl.OrdOut, "e+1", "x+e15", false, true}, {impl.OrdOut, "x+e14", "e+1", false, false},
		{impl.OrdDeg, "y2e15+xd15", "d+1", true, false}, {impl.OrdDeg, "d+1", "y2e15+xd15", false, true}, {impl.OrdDeg, "y2e15+xd14", "d+1", false, false},
		{impl.OrdDeg, "x2+y2", "x15y14", true, false}, {impl.OrdDeg, "x15y14", "x2+y2", false, true}, {impl.OrdDeg, "x2+y2", "x15y13", false, false},
		{impl.OrdLex, "de+x15", "xd+e15", true, true}, {impl.OrdLex, "de+x14", "xd+e15", false, true}, {impl.OrdLex, "de+x15", "xd+e14", true, false}, {impl.OrdLex, "de+x14", "xd+e14", false, false},
		{impl.OrdLex, "de+xy15", "d+y15", false, false}, {impl.OrdLex, "yd+x15", "xd+x15", true, false}, {impl.OrdLex, "ye+x15y", "xe+x15y", true, false}, {impl.OrdLex, "xe+x15y", "ye+x15y", false, true},
	} {
		want := wantCouple(t, c.order, loose(t, c.a), loose(t, c.b))
		if want.products[0].tooMuch != c.first || want.products[1].tooMuch != c.second || want.ok() == (c.first || c.second) {
			t.Fatalf("the pair of %s and %s is %v, with products %v, %v", c.a, c.b, want.ok(), want.products[0].tooMuch, want.products[1].tooMuch)
		}
	}
}

// wide is a greatest term, in OrdDeg, and so many smaller ones: with `x` or without; `d` times it has a term more for each with `x`.
func wide(lead impl.MonMon, with int, without int) []impl.PolTerm {
	numbers := map[impl.MonMon]int{lead: 1}
	for i := range with {
		numbers[impl.MonMon{X: 1 + i%8, Y: i / 8 % 8, E: i / 64}] = 1
	}
	for i := range without {
		numbers[impl.MonMon{Y: i % 8, E: i / 8}] = 1
	}
	return fromNumbers(numbers)
}

// Of d times one with so many terms the first product is too much, or the second one, by itself: the difference has one term less.
func TestSprProductsAtPolMax(t *testing.T) {
	d := op(t, "d")
	for _, c := range []struct{ with, without, terms int }{{199, 0, 399}, {199, 1, 400}, {200, 0, 401}, {150, 99, 400}, {150, 100, 401}, {250, 0, 501}} {
		a := wide(impl.MonMon{Y: 10, E: 15}, c.with, c.without)
		for side, want := range []couple{wantCouple(t, impl.OrdDeg, a, d), wantCouple(t, impl.OrdDeg, d, a)} {
			if len(want.products[side].sum) != c.terms || len(want.rest) != c.terms-1 || want.products[side].tooMuch || !want.products[1-side].ok() {
				t.Fatalf("a product comes to %d terms, the difference to %d", len(want.products[side].sum), len(want.rest))
			}
			if want.ok() != (c.terms <= impl.PolMax) {
				t.Fatalf("SprPoly with a product of %d terms is %v", c.terms, want.ok())
			}
		}
	}
}

// On the way a product has more terms than at its end.
func TestSprProductsOnTheWay(t *testing.T) {
	e := op(t, "e")
	for _, c := range []struct {
		beside         bool
		so, away, most int
	}{{false, 199, 200, 399}, {true, 199, 199, 400}, {false, 200, 199, 401}} {
		g := crowded(c.beside, c.so, c.away)
		for side, want := range []couple{wantCouple(t, impl.OrdDeg, g, e), wantCouple(t, impl.OrdDeg, e, g)} {
			way := want.products[side]
			if way.most != c.most || len(way.sum) > 220 || want.ok() != (c.most <= impl.PolMax) {
				t.Fatalf("SprPoly with %d terms on the way is %v", way.most, want.ok())
			}
		}
	}
}

// rungs are so many monomials with up to 7 `x`, up to 7 `y`, and `d`, each times the first one.
func rungs(n int, first impl.MonMon) map[impl.MonMon]int {
	numbers := map[impl.MonMon]int{}
	for i := range n {
		numbers[impl.MonMon{X: first.X + i%8, Y: first.Y + i/8%8, D: first.D + i/64, E: first.E}] = 1 + i%100
	}
	return numbers
}

// Two products with no more than PolMax terms may have more together, or fewer.
func TestSprDifferenceAtPolMax(t *testing.T) {
	for _, c := range []struct{ ofA, ofB, terms int }{{200, 200, 400}, {201, 200, 401}, {200, 201, 401}, {1, 399, 400}, {2, 399, 401}, {399, 1, 400}, {399, 2, 401}, {399, 399, 798}} {
		a := together(map[impl.MonMon]int{{X: 1, D: 15, E: 15}: 1}, rungs(c.ofA, impl.MonMon{}))
		b := together(map[impl.MonMon]int{{Y: 1, D: 15, E: 15}: 1}, rungs(c.ofB, impl.MonMon{E: 1}))
		want := wantCouple(t, impl.OrdDeg, a, b)
		if len(want.rest) != c.terms || !want.products[0].ok() || !want.products[1].ok() || want.ok() != (c.terms <= impl.PolMax) {
			t.Fatalf("SprPoly of %d terms is %v", len(want.rest), want.ok())
		}
	}
	full := together(map[impl.MonMon]int{{X: 1, D: 15, E: 15}: 1}, rungs(399, impl.MonMon{}))
	for _, order := range allOrders {
		if want := wantCouple(t, order, full, impl.PolScale(2, full)); !want.ok() || len(want.rest) != 0 {
			t.Fatal("SprPoly of PolMax terms twice is false, or not 0")
		}
	}
}

func TestSprOfNoOrder(t *testing.T) {
	for _, order := range badOrders {
		for _, a := range append(ops(t, "1", "x", "2xd+y+100"), manyTerms(impl.PolMax)) {
			for _, b := range ops(t, "1", "d", "2xd+y+100") {
				wantNoCouple(t, order, a, b, "no order")
			}
		}
	}
}

func TestSprOfNothing(t *testing.T) {
	for _, order := range append(slices.Clone(allOrders), badOrders...) {
		for _, none := range [][]impl.PolTerm{nil, {}, manyTerms(5)[:0]} {
			for _, p := range append(ops(t, "1", "x", "2xd+y+100"), nil, []impl.PolTerm{}, manyTerms(impl.PolMax)) {
				wantNoCouple(t, order, none, p, "0 as the first one")
				wantNoCouple(t, order, p, none, "0 as the second one")
			}
		}
	}
}

func TestSprOfNoOperator(t *testing.T) {
	for _, bad := range allBadPols() {
		for _, order := range append([]int{0}, allOrders...) {
			for _, p := range append(ops(t, "0", "1", "d", "2xd+y+100"), bad) {
				wantNoCouple(t, order, bad, p, "what is no operator as the first one")
				wantNoCouple(t, order, p, bad, "what is no operator as the second one")
			}
		}
	}
}

func TestSprNewMemory(t *testing.T) {
	pairs := [][2][]impl.PolTerm{
		{nil, nil}, {op(t, "x"), nil}, {nil, op(t, "x")}, {op(t, "x"), op(t, "x")}, {op(t, "d"), op(t, "x")}, {op(t, "x+1"), op(t, "1")}, {op(t, "1"), op(t, "x+1")},
		{op(t, "x+1"), op(t, "x")}, {op(t, "x"), op(t, "x+1")}, {manyTerms(impl.PolMax), op(t, "1")}, {op(t, "1"), manyTerms(impl.PolMax)}, {manyTerms(impl.PolMax + 1), op(t, "1")},
	}
	d := dice(88)
	for range 100 {
		pairs = append(pairs, [2][]impl.PolTerm{d.pol(5, 3), d.pol(5, 3)})
	}
	for _, pair := range pairs {
		for _, order := range append([]int{0}, allOrders...) {
			wantNewMemory(t, pair[0], pair[1], "SprPoly", func(a []impl.PolTerm, b []impl.PolTerm) []impl.PolTerm {
				impl.SprTerms(order, a, b)
				rest, _ := impl.SprPoly(order, a, b)
				return rest
			})
		}
	}
}
