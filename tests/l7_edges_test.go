package tests

import (
	"testing"

	"loop.example/selvedge/impl"
)

// pile is an operator that takes so many steps by d+e, in each order: `d` turns into `e` one by one, and what is `e` alone is left, or taken by e.
func pile(steps int) []impl.PolTerm {
	numbers := map[impl.MonMon]int{}
	for i := 0; steps > 0; i++ {
		slopes := min(steps, impl.MonMax+1) - 1
		numbers[impl.MonMon{X: i % 4, Y: i / 4, D: slopes}] = 1 + i
		steps -= slopes + 1
	}
	return fromNumbers(numbers)
}

// The last step takes, or leaves; a step takes one term, or turns it into another one.
func TestRedAllAtRedFuel(t *testing.T) {
	for _, steps := range []int{impl.RedFuel - 1, impl.RedFuel, impl.RedFuel + 1} {
		for _, c := range []struct {
			p    []impl.PolTerm
			list [][]impl.PolTerm
		}{
			{manyTerms(steps), nil}, {manyTerms(steps), ops(t, "e")}, {manyTerms(steps), ops(t, "d")}, {manyTerms(steps), ops(t, "1")}, {manyTerms(steps), ops(t, "e", "d", "7")},
			{pile(steps), ops(t, "d+e")}, {pile(steps), ops(t, "d+e", "e")}, {pile(steps), ops(t, "3d+2e", "d", "1")},
		} {
			for _, order := range allOrders {
				want := wantDivision(t, order, c.p, c.list)
				wantInt(t, want.steps, steps, "steps of a division by "+listText(c.list), order)
				if want.ok() != (steps <= impl.RedFuel) {
					t.Fatalf("a division of %d steps is %v", steps, want.ok())
				}
			}
		}
	}
}

// Steps are counted, not terms: of PolMax terms one step may take all.
func TestRedAllOfPolMaxTerms(t *testing.T) {
	full := manyTerms(impl.PolMax)
	for _, order := range allOrders {
		for _, list := range [][][]impl.PolTerm{{full}, {op(t, "e"), full}, {impl.PolScale(5, full), full}} {
			want := wantDivision(t, order, full, list)
			if !want.ok() || want.steps != 1 {
				t.Fatalf("a division in %d steps is %v", want.steps, want.ok())
			}
		}
		for _, list := range [][][]impl.PolTerm{nil, ops(t, "e"), ops(t, "1"), ops(t, "d", "1")} {
			want := wantDivision(t, order, full, list)
			if want.ok() || want.steps != impl.PolMax {
				t.Fatalf("a division in %d steps is %v", want.steps, want.ok())
			}
		}
	}
	// As there are at most RedFuel steps, fewer than PolMax, no more than that is ever left.
	taken, left, ok := impl.RedAll(impl.OrdDeg, manyTerms(impl.RedFuel), ops(t, "e"))
	if !ok || len(left) != impl.RedFuel || len(taken) != 1 || len(taken[0]) != 0 {
		t.Fatalf("RedAll that leaves RedFuel terms is %v", ok)
	}
}

// forms are so many forms with no more than so many factors, the least ones, times a monomial.
func forms(n int, factors int, m impl.MonMon) map[impl.MonMon]int {
	numbers := map[impl.MonMon]int{}
	for degree := range factors + 1 {
		for x := range degree + 1 {
			if len(numbers) < n {
				numbers[impl.MonMon{X: m.X + x, Y: m.Y + degree - x, D: m.D, E: m.E}] = 1
			}
		}
	}
	return numbers
}

// together are the terms of several, none of which stands in two.
func together(parts ...map[impl.MonMon]int) []impl.PolTerm {
	numbers := map[impl.MonMon]int{}
	for _, part := range parts {
		for m, c := range part {
			numbers[m] = c
		}
	}
	return fromNumbers(numbers)
}

// The first step brings 120 terms beside those that there are, a later one takes 150 at once: so there are more in between than ahead and behind.
func TestRedAllSumsOnTheWay(t *testing.T) {
	first := together(map[impl.MonMon]int{{D: 15}: 1}, forms(120, 14, impl.MonMon{}))
	second := together(map[impl.MonMon]int{{E: 14}: 1}, forms(91, 12, impl.MonMon{E: 1}), forms(58, 11, impl.MonMon{E: 2}))
	for beside, ok := range map[int]bool{129: true, 130: true, 131: false, 140: false} {
		p := together(map[impl.MonMon]int{{D: 15}: 1}, numbersOf(second), forms(100, 13, impl.MonMon{D: 1}), forms(beside-100, 12, impl.MonMon{D: 2}))
		for _, list := range [][][]impl.PolTerm{{first, second}, {second, first}} {
			want := wantDivision(t, impl.OrdDeg, p, list)
			if want.ok() != ok || want.most != beside+270 || want.steps != beside+122 || want.pastMon || want.pastPol {
				t.Fatalf("a division with %d terms on the way, in %d steps, is %v", want.most, want.steps, want.ok())
			}
		}
	}
}

// A sum that has no more than PolMax terms may be made of two that have more together.
func TestRedAllSumsOfMany(t *testing.T) {
	g := manyTerms(impl.PolMax)
	for _, more := range []int{1, 2, 50} {
		p := impl.PolScale(3, g)
		for i := range more {
			p[len(p)-1-i].C = 50
		}
		want := wantDivision(t, impl.OrdDeg, p, [][]impl.PolTerm{g})
		if !want.ok() || want.most != more || want.steps != more+1 {
			t.Fatalf("a division in %d steps is %v", want.steps, want.ok())
		}
	}
}

// crowded is a divisor whose greatest term is x15d15; e times it has one term for that, two more for each of so many, and one fewer for each of those that take one away.
func crowded(beside bool, so int, away int) []impl.PolTerm {
	numbers := map[impl.MonMon]int{{X: 15, D: 15}: 1}
	if beside {
		numbers[impl.MonMon{X: 15, D: 14}] = 1
	}
	for _, m := range gridMons(0, 1, 2, 3, 4, 5, 6, 7, 8, 9, 10, 11, 12, 13, 14) {
		factors := m.X + m.D + m.E
		if m.Y > 0 || m.E == 0 || factors < 19 || factors > 20 {
			continue
		}
		if so > 0 {
			so--
			numbers[impl.MonMon{X: m.X, Y: 1, D: m.D, E: m.E}] = 1
		}
		if away > 0 {
			away--
			numbers[impl.MonMon{X: m.X, D: m.D, E: m.E - 1}] = impl.FldP - 1
		}
	}
	return fromNumbers(numbers)
}

// The product has more than PolMax terms on its way; the difference would have fewer.
func TestRedAllProductsOnTheWay(t *testing.T) {
	for _, c := range []struct {
		beside   bool
		so, away int
		most     int
	}{{false, 199, 200, 399}, {true, 199, 199, 400}, {false, 200, 199, 401}, {true, 200, 198, 402}} {
		p, g := op(t, "x15d15e"), crowded(c.beside, c.so, c.away)
		if way := plainWays(op(t, "e"), g); way.most != c.most || len(way.sum) > 220 || way.tooMuch {
			t.Fatalf("a product comes to %d terms, with %d on the way", len(way.sum), way.most)
		}
		for _, list := range [][][]impl.PolTerm{{g}, {op(t, "y9"), g, op(t, "y2")}} {
			want := wantDivision(t, impl.OrdDeg, p, list)
			if want.ok() != (c.most <= impl.PolMax) || want.most > 220 || want.steps > 250 || want.pastMon {
				t.Fatalf("a division with %d terms on the way, in %d steps, is %v", c.most, want.steps, want.ok())
			}
		}
	}
}

// The product has more than PolMax terms at its end; the difference has fewer, and is taken at the next step.
func TestRedAllProductsAtTheEnd(t *testing.T) {
	for _, c := range []struct {
		beside bool
		so     int
		terms  int
	}{{false, 199, 399}, {true, 199, 400}, {false, 200, 401}} {
		p, g := op(t, "x15d15e"), crowded(c.beside, c.so, 0)
		product := plainWays(op(t, "e"), g).sum
		wantInt(t, len(product), c.terms, "terms of a product")
		rest := plainSum(fromNumbers(product), -1, p)
		want := wantDivision(t, impl.OrdDeg, p, [][]impl.PolTerm{g, rest})
		if want.ok() != (c.terms <= impl.PolMax) || want.most != c.terms-1 || want.steps != 2 {
			t.Fatalf("a division with a product of %d terms, in %d steps, is %v", c.terms, want.steps, want.ok())
		}
	}
}

func TestRedAllAtMonMax(t *testing.T) {
	for _, c := range []struct {
		order int
		p     string
		list  []string
		ok    bool
	}{
		{impl.OrdDeg, "x15y15d15e15", []string{"x15y15d15e15"}, true}, {impl.OrdDeg, "x15y15d15e15", []string{"1"}, true}, {impl.OrdDeg, "x15y15d15e15", []string{"d15e15", "x"}, true},
		{impl.OrdDeg, "x2y13", []string{"x2+y2"}, true}, {impl.OrdDeg, "x2y14", []string{"x2+y2"}, false},
		{impl.OrdLex, "x", []string{"x+y15"}, true}, {impl.OrdLex, "xy", []string{"x+y15"}, false}, {impl.OrdLex, "xy", []string{"x+y14"}, true},
		{impl.OrdOut, "x", []string{"x+y15e15"}, true}, {impl.OrdOut, "xe", []string{"x+e15"}, false}, {impl.OrdOut, "xe", []string{"x+e14"}, true},
		{impl.OrdLex, "de", []string{"d+e15"}, false}, {impl.OrdLex, "d", []string{"d+x15"}, true}, {impl.OrdLex, "d2", []string{"d+x15"}, false}, {impl.OrdLex, "xd", []string{"d+x15"}, false},
		// Less its slopes and times the product would be small enough; what counts is MonMul.
		{impl.OrdDeg, "x2d15", []string{"x2+xd"}, false}, {impl.OrdDeg, "y2e15", []string{"y2+ye"}, false}, {impl.OrdDeg, "x2d14", []string{"x2+x"}, true},
		// At the first step, amid them, and at the last one.
		{impl.OrdLex, "xy+x", []string{"x+y15"}, false}, {impl.OrdLex, "d+xy+y", []string{"x+y15"}, false}, {impl.OrdLex, "d+e+xy", []string{"e", "d", "x+y15"}, false},
		{impl.OrdLex, "e2", []string{"e+x", "x2+y9", "xy+y15"}, true}, {impl.OrdLex, "e2", []string{"e+x", "x2+y", "y+1"}, true}, {impl.OrdLex, "ye2", []string{"e+x", "x2+y15"}, false},
		// One that would be too much is not asked, if another one takes first, or it never takes.
		{impl.OrdLex, "xy", []string{"y", "x+y15"}, true}, {impl.OrdLex, "xy", []string{"x+y15", "y"}, false}, {impl.OrdLex, "xy", []string{"x", "x+y15"}, true}, {impl.OrdLex, "xy", []string{"d+y15", "x"}, true},
		{impl.OrdLex, "xy", []string{"x2+y15"}, true}, {impl.OrdLex, "0", []string{"x+y15"}, true},
	} {
		p := loose(t, c.p)
		want := wantDivision(t, c.order, p, looseOps(t, c.list...))
		if want.ok() != c.ok || want.pastMon == c.ok {
			t.Fatalf("RedAll(%d) of %s by %v is %v", c.order, c.p, c.list, want.ok())
		}
	}
}
