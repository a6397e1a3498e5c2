package tests

import (
	"math"
	"slices"
	"testing"

	"loop.example/selvedge/impl"
)

// badSlopes are neither of the two slopes.
var badSlopes = []int{2, 3, 100, math.MaxInt, -1, -2, math.MinInt}

// plainDo is what an operator does to a form, letter by letter: x and y are put to it, d and e take one away, so often as it stands there.
func plainDo(p []impl.PolTerm, f []impl.PolTerm) ([]impl.PolTerm, bool) {
	sum := map[impl.MonMon]int{}
	for _, s := range p {
		for _, r := range f {
			c, m := s.C*r.C, r.M
			for range s.M.D {
				c, m.X = c*m.X%impl.FldP, m.X-1
			}
			for range s.M.E {
				c, m.Y = c*m.Y%impl.FldP, m.Y-1
			}
			if c == 0 {
				continue
			}
			m.X, m.Y = m.X+s.M.X, m.Y+s.M.Y
			if max(m.X, m.Y) > impl.MonMax {
				return nil, false
			}
			sum[m] += c
		}
	}
	return fromNumbers(sum), true
}

// plainAt is a form where x and y are two numbers, factor by factor.
func plainAt(f []impl.PolTerm, x int, y int) int {
	sum := 0
	for _, term := range f {
		product := term.C
		for range term.M.X {
			product = product * x % impl.FldP
		}
		for range term.M.Y {
			product = product * y % impl.FldP
		}
		sum = (sum + product) % impl.FldP
	}
	return sum
}

// someForms are forms of many sizes, one with all monomials that a form may have.
func someForms() [][]impl.PolTerm {
	d := dice(24)
	forms := [][]impl.PolTerm{nil, {}, {{C: 1}}, {{C: 100, M: impl.MonMon{X: 15, Y: 15}}}, manyTerms(256)}
	for range 60 {
		forms = append(forms, d.form(5, 2), d.form(20, 4), d.form(9, impl.MonMax))
	}
	return forms
}

func TestWylDoIsWhatItsLettersDo(t *testing.T) {
	tries(t, 5, 500, func(d *dice, most int) bool {
		p, f := d.pol(6, most), d.form(8, impl.MonMax)
		if d.roll(2) == 0 {
			f = d.form(8, most)
		}
		want, wantOk := plainDo(p, f)
		got, ok := impl.WylDo(p, f)
		if ok != wantOk {
			t.Fatalf("WylDo of %v and %v is %v", p, f, ok)
		}
		if !ok {
			wantNothing(t, got, ok, "WylDo")
			return false
		}
		wantPol(t, got, want, "WylDo of "+plainText(p)+" and "+plainText(f))
		if !impl.PolFree(got) {
			t.Fatalf("WylDo is no form: %v", got)
		}
		return true
	})
	for _, m := range gridMons(0, 1, 2, 14, 15) {
		for _, g := range gridMons(0, 1, 2, 14, 15) {
			if g.D > 0 || g.E > 0 {
				continue
			}
			want, wantOk := plainDo(impl.PolOf(7, m), impl.PolOf(2, g))
			got, ok := impl.WylDo(impl.PolOf(7, m), impl.PolOf(2, g))
			if ok != wantOk || !slices.Equal(got, want) {
				t.Fatalf("WylDo of %v and %v is %v, %v", m, g, got, ok)
			}
		}
	}
}

func TestWylDoByHand(t *testing.T) {
	for _, c := range [][3]string{
		{"xd+e", "x3y", "3x3y+x3"}, {"xd+ye", "x3y", "4x3y"}, {"d", "x15", "15x14"}, {"e", "y15", "15y14"}, {"x", "y", "xy"}, {"y", "x", "xy"},
		{"d", "y15", "0"}, {"e", "x15", "0"}, {"d2", "x", "0"}, {"d2", "x2", "2"}, {"de", "xy", "1"}, {"de", "x2", "0"}, {"de", "x2y+xy2", "2x+2y"},
		{"d3", "x3+x2+x+1", "6"}, {"x15d15", "x15", "30x15"}, {"x2", "x13y15", "x15y15"}, {"2d", "51x", "1"}, {"0", "x15y15", "0"}, {"0", "0", "0"},
		{"x15y15d15e15", "0", "0"}, {"x15y15", "1", "x15y15"}, {"x15y15d", "1", "0"}, {"x15d2", "x", "0"}, {"x", "0", "0"},
		// A term that does nothing is not too much, however great it is.
		{"x15d", "y15", "0"}, {"y15e+1", "x15", "x15"}, {"x15y15de", "x15", "0"}, {"x15y15de", "y15", "0"},
		{"x2d2+99xd+2", "x", "0"}, {"d+100", "x+1", "100x"},
	} {
		wantPol(t, must(t)(impl.WylDo(op(t, c[0]), op(t, c[1]))), op(t, c[2]), "WylDo of "+c[0]+" and "+c[1])
	}
	if full := must(t)(impl.WylDo(op(t, "xd+ye+1"), manyTerms(256))); len(full) != 256 {
		t.Fatalf("WylDo of xd+ye+1 and all monomials has %d terms", len(full))
	}
}

func TestWylDoTooMuch(t *testing.T) {
	for _, c := range [][2]string{
		{"x", "x15"}, {"y", "y15"}, {"x15", "x"}, {"y15", "y"}, {"x2d", "x15"}, {"y2e", "y15"}, {"x15y15", "x"}, {"x+1", "x15+x"}, {"x", "x15+1"}, {"x15+d", "x2+1"},
		// What is too much takes itself away again.
		{"x2d+86x", "x15"}, {"y2e+86y", "y15"}, {"x2d+86x", "x15+x"},
	} {
		got, ok := impl.WylDo(op(t, c[0]), op(t, c[1]))
		wantNothing(t, got, ok, "WylDo of "+c[0]+" and "+c[1])
	}
}

func TestWylDoOfNoForm(t *testing.T) {
	for _, f := range []string{"d", "e", "xd", "ye+1", "x2+d", "x15y15e", "d15e15"} {
		for _, p := range []string{"0", "1", "x", "d", "xd+1"} {
			got, ok := impl.WylDo(op(t, p), op(t, f))
			wantNothing(t, got, ok, "WylDo of "+p+" and "+f)
		}
		for _, k := range []int{0, 1} {
			wantPol(t, impl.ActSlope(op(t, f), k), nil, "ActSlope of "+f)
		}
		wantInt(t, impl.ActAt(op(t, f), 1, 1), 0, "ActAt of "+f)
	}
}

// P21
func TestWylDoSpreads(t *testing.T) {
	tries(t, 21, 400, func(d *dice, most int) bool {
		var all all
		p, q, f, g := d.pol(5, most), d.pol(5, most), d.form(6, most), d.form(6, most)
		pf := all.of(impl.WylDo(p, f))
		operators := all.of(impl.WylDo(all.of(impl.PolAdd(p, q)), f))
		ofEach := all.of(impl.PolAdd(pf, all.of(impl.WylDo(q, f))))
		forms := all.of(impl.WylDo(p, all.of(impl.PolAdd(f, g))))
		toEach := all.of(impl.PolAdd(pf, all.of(impl.WylDo(p, g))))
		if !all.no {
			wantPol(t, operators, ofEach, "WylDo of PolAdd of operators")
			wantPol(t, forms, toEach, "WylDo of PolAdd of forms")
		}
		return !all.no
	})
	for _, f := range someForms() {
		wantPol(t, must(t)(impl.WylDo(op(t, "1"), f)), f, "WylDo of 1")
		wantPol(t, must(t)(impl.WylDo(op(t, "3"), f)), impl.PolScale(3, f), "WylDo of 3")
		wantPol(t, must(t)(impl.WylDo(nil, f)), nil, "WylDo of 0")
	}
}

// P22
func TestWylDoDoesSomething(t *testing.T) {
	tries(t, 22, 500, func(d *dice, most int) bool {
		numbers := map[impl.MonMon]int{}
		mostD, mostE := 0, 0
		for range 1 + d.roll(6) {
			m := impl.MonMon{X: d.roll(most + 1), Y: d.roll(most + 1), D: d.roll(min(most, 6) + 1), E: d.roll(min(most, 6) + 1)}
			numbers[m] = 1 + d.roll(impl.FldP-1)
			mostD, mostE = max(mostD, m.D), max(mostE, m.E)
		}
		does := false
		for i := range mostD + 1 {
			for k := range mostE + 1 {
				done, ok := impl.WylDo(fromNumbers(numbers), impl.PolOf(1, impl.MonMon{X: i, Y: k}))
				if !ok {
					return false
				}
				does = does || len(done) > 0
			}
		}
		if !does {
			t.Fatalf("%v does nothing", fromNumbers(numbers))
		}
		return true
	})
}

// P24
func TestActSlope(t *testing.T) {
	slopes := []string{"d", "e"}
	for _, f := range someForms() {
		for k, slope := range slopes {
			wantPol(t, impl.ActSlope(f, k), must(t)(impl.WylDo(op(t, slope), f)), "ActSlope")
		}
		wantPol(t, impl.ActSlope(impl.ActSlope(f, 0), 1), impl.ActSlope(impl.ActSlope(f, 1), 0), "ActSlope by both")
	}
	for _, c := range []struct {
		f    string
		k    int
		want string
	}{
		{"x3", 0, "3x2"}, {"x3", 1, "0"}, {"y3", 1, "3y2"}, {"y3", 0, "0"}, {"x", 0, "1"}, {"y", 1, "1"}, {"0", 0, "0"}, {"0", 1, "0"}, {"100", 0, "0"}, {"1", 1, "0"},
		{"x15y15", 0, "15x14y15"}, {"x15y15", 1, "15x15y14"}, {"x2y+x2+xy+x+y+1", 0, "2xy+2x+y+1"}, {"x2y+x2+xy+x+y+1", 1, "x2+x+1"}, {"51x2+100y", 0, "x"}, {"51x2+100y", 1, "100"}, {"7x15", 0, "4x14"},
	} {
		wantPol(t, impl.ActSlope(op(t, c.f), c.k), op(t, c.want), "ActSlope of "+c.f)
	}
	for _, f := range someForms() {
		for _, k := range badSlopes {
			wantPol(t, impl.ActSlope(f, k), nil, "ActSlope by none")
		}
	}
}

// P24, too
func TestActSlopeOfAProduct(t *testing.T) {
	tries(t, 241, 500, func(d *dice, most int) bool {
		var all all
		f, g, k := d.form(6, most), d.form(6, most), d.roll(2)
		whole := impl.ActSlope(all.of(impl.WylMul(f, g)), k)
		first := all.of(impl.WylMul(impl.ActSlope(f, k), g))
		second := all.of(impl.WylMul(f, impl.ActSlope(g, k)))
		both := all.of(impl.PolAdd(first, second))
		if !all.no {
			wantPol(t, whole, both, "ActSlope of a product")
		}
		return !all.no
	})
}

// P25
func TestActAt(t *testing.T) {
	tries(t, 25, 500, func(d *dice, most int) bool {
		f, g, x, y := d.form(8, most), d.form(8, most), d.roll(impl.FldP), d.roll(impl.FldP)
		atF, atG := impl.ActAt(f, x, y), impl.ActAt(g, x, y)
		sum, sumOk := impl.PolAdd(f, g)
		product, productOk := impl.WylMul(f, g)
		if sumOk {
			wantInt(t, impl.ActAt(sum, x, y), impl.FldAdd(atF, atG), "ActAt of PolAdd", x, y)
		}
		if productOk {
			wantInt(t, impl.ActAt(product, x, y), impl.FldMul(atF, atG), "ActAt of WylMul", x, y)
		}
		return sumOk && productOk
	})
	for _, f := range someForms() {
		for _, x := range someNumbers {
			for _, y := range someNumbers {
				wantInt(t, impl.ActAt(f, x, y), plainAt(f, x, y), "ActAt of "+plainText(f), x, y)
			}
		}
	}
}

func TestActAtEdges(t *testing.T) {
	for _, c := range []struct {
		f    string
		x, y int
		want int
	}{
		{"x2+y", 3, 4, 13}, {"1", 0, 0, 1}, {"x+1", 0, 100, 1}, {"x", 0, 5, 0}, {"y", 5, 0, 0}, {"x2", 100, 0, 1}, {"x", 100, 0, 100}, {"y15", 0, 100, 100}, {"0", 3, 4, 0}, {"x", 2, 3, 2}, {"y", 2, 3, 3}, {"x15y15", 1, 1, 1}, {"100x+100y", 50, 51, 0},
	} {
		wantInt(t, impl.ActAt(op(t, c.f), c.x, c.y), c.want, "ActAt of "+c.f, c.x, c.y)
	}
	for _, f := range []string{"1", "x", "y", "5", "x+y+1"} {
		for _, n := range noNumbers {
			for _, other := range []int{0, 1, impl.FldP - 1, impl.FldP, -1} {
				wantInt(t, impl.ActAt(op(t, f), n, other), 0, "ActAt of "+f, n, other)
				wantInt(t, impl.ActAt(op(t, f), other, n), 0, "ActAt of "+f, other, n)
			}
		}
	}
}

func TestWylWrong(t *testing.T) {
	for name, bad := range badPols() {
		others := [][]impl.PolTerm{nil, {}, op(t, "1"), op(t, "x"), op(t, "2xd+y+100"), bad}
		for _, other := range others {
			for _, pair := range [][2][]impl.PolTerm{{bad, other}, {other, bad}} {
				p, ok := impl.WylMul(pair[0], pair[1])
				wantNothing(t, p, ok, "WylMul of one with "+name)
				p, ok = impl.WylApart(pair[0], pair[1])
				wantNothing(t, p, ok, "WylApart of one with "+name)
				p, ok = impl.WylDo(pair[0], pair[1])
				wantNothing(t, p, ok, "WylDo of one with "+name)
			}
		}
		for n := -1; n <= 9; n++ {
			p, ok := impl.WylPow(bad, n)
			wantNothing(t, p, ok, "WylPow of one with "+name)
		}
		for _, k := range append([]int{0, 1}, badSlopes...) {
			wantPol(t, impl.ActSlope(bad, k), nil, "ActSlope of one with "+name)
		}
		for _, x := range []int{0, 1, 2, 100, 101, -1} {
			wantInt(t, impl.ActAt(bad, x, 1), 0, "ActAt of one with "+name, x)
		}
	}
}

func TestWylNewMemory(t *testing.T) {
	d := dice(44)
	for range 100 {
		a, b, f := d.pol(6, 2), d.pol(6, 2), d.form(8, 5)
		n, k := d.roll(4), d.roll(2)
		calls := map[string]func(a []impl.PolTerm, b []impl.PolTerm) []impl.PolTerm{
			"WylMul":        func(a, b []impl.PolTerm) []impl.PolTerm { p, _ := impl.WylMul(a, b); return p },
			"WylMul of 1":   func(a, b []impl.PolTerm) []impl.PolTerm { p, _ := impl.WylMul([]impl.PolTerm{{C: 1}}, b); return p },
			"WylMul by 1":   func(a, b []impl.PolTerm) []impl.PolTerm { p, _ := impl.WylMul(a, []impl.PolTerm{{C: 1}}); return p },
			"WylMul of one": func(a, b []impl.PolTerm) []impl.PolTerm { p, _ := impl.WylMul(a, a); return p },
			"WylPow":        func(a, b []impl.PolTerm) []impl.PolTerm { p, _ := impl.WylPow(a, n); return p },
			"WylPow by 1":   func(a, b []impl.PolTerm) []impl.PolTerm { p, _ := impl.WylPow(a, 1); return p },
			"WylPow by 0":   func(a, b []impl.PolTerm) []impl.PolTerm { p, _ := impl.WylPow(a, 0); return p },
			"WylApart":      func(a, b []impl.PolTerm) []impl.PolTerm { p, _ := impl.WylApart(a, b); return p },
			"WylDo":         func(a, b []impl.PolTerm) []impl.PolTerm { p, _ := impl.WylDo(b, a); return p },
			"WylDo, a form": func(a, b []impl.PolTerm) []impl.PolTerm { p, _ := impl.WylDo(a, b); return p },
			"WylDo of 1":    func(a, b []impl.PolTerm) []impl.PolTerm { p, _ := impl.WylDo([]impl.PolTerm{{C: 1}}, b); return p },
			"ActSlope":      func(a, b []impl.PolTerm) []impl.PolTerm { return impl.ActSlope(b, k) },
			"ActSlope, ActAt": func(a, b []impl.PolTerm) []impl.PolTerm {
				impl.ActAt(b, 2, 3)
				return impl.ActSlope(a, k)
			},
		}
		for name, call := range calls {
			wantNewMemory(t, a, b, name, call)
			wantNewMemory(t, a, f, name, call)
		}
	}
}
