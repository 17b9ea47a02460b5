package tests

import (
	"math"
	"math/big"
	"testing"

	"loop.example/g01381/impl"
)

// A wide number is a 64-bit one whose operations are rounded one by one,
// whatever machine the tests run on: no two of them can be done at once.
type wide struct{ v *big.Float }

func from(x float64) wide { return wide{big.NewFloat(x)} }

func fresh() *big.Float { return new(big.Float).SetPrec(53) }

func (a wide) plus(b wide) wide  { return wide{fresh().Add(a.v, b.v)} }
func (a wide) less(b wide) wide  { return wide{fresh().Sub(a.v, b.v)} }
func (a wide) times(b wide) wide { return wide{fresh().Mul(a.v, b.v)} }
func (a wide) over(b wide) wide  { return wide{fresh().Quo(a.v, b.v)} }
func (a wide) root() wide        { return from(math.Sqrt(a.wide())) }
func (a wide) opposite() wide    { return wide{fresh().Neg(a.v)} }

func (a wide) wide() float64 {
	x, _ := a.v.Float64()
	return x
}

// part is what is left of a number of turns without its whole ones.
func part(turns float64) wide {
	whole, _ := big.NewFloat(turns).Int(nil)
	f := from(turns).less(wide{fresh().SetInt(whole)})
	if f.v.Sign() < 0 {
		return f.plus(from(1))
	}
	return f
}

func sine(turns wide) wide {
	f := part(turns.wide())
	lower := f.wide() >= 0.5
	if lower {
		f = f.less(from(0.5))
	}
	if f.wide() > 0.25 {
		f = from(0.5).less(f)
	}
	z := f.times(from(6.283185307179586))
	u, p := z.times(z), from(1)
	for k := 8.0; k > 0; k-- {
		p = from(1).less(u.times(p).over(from(2 * k * (2*k + 1))))
	}
	if lower {
		return z.times(p).opposite()
	}
	return z.times(p)
}

func angle(y, x float32) wide {
	a, b := from(math.Abs(float64(y))), from(math.Abs(float64(x)))
	steep := a.wide() > b.wide()
	t := a
	if steep {
		t = b.over(a)
	} else {
		t = a.over(b)
	}
	for range 3 {
		t = t.over(from(1).plus(from(1).plus(t.times(t)).root()))
	}
	u, p := t.times(t), from(0)
	for k := 15.0; k > 0; k -= 2 {
		p = from(1).over(from(k)).less(u.times(p))
	}
	turn := from(8).times(t.times(p)).over(from(6.283185307179586))
	if steep {
		turn = from(0.25).less(turn)
	}
	if x < 0 {
		turn = from(0.5).less(turn)
	}
	if y < 0 {
		turn = turn.opposite()
	}
	return turn
}

func logarithm(x float32) wide {
	frac, e := math.Frexp(float64(x)) // from 0.5 on and less than 1
	if frac < 0.75 {
		frac, e = frac*2, e-1
	}
	s := from(frac).less(from(1)).over(from(frac).plus(from(1)))
	u, q := s.times(s), from(0)
	for k := 25.0; k > 0; k -= 2 {
		q = from(1).over(from(k)).plus(u.times(q))
	}
	return from(2).times(s.times(q)).plus(from(float64(e)).times(from(0.6931471805599453)))
}

func power(x float32) wide {
	t, p := from(float64(x)).over(from(256)), from(1)
	for k := 12.0; k > 0; k-- {
		p = from(1).plus(t.times(p).over(from(k)))
	}
	for range 8 {
		p = p.times(p)
	}
	return p
}

func narrow(a wide) uint32 { return bitsOf(float32(a.wide())) }

func TestEachOperationIsRounded(t *testing.T) {
	list := append(seldom(), draws(20000)...)
	for i, x := range list {
		y := list[(i*7+1)%len(list)]
		if !impl.IsFinite(x) || !impl.IsFinite(y) {
			continue
		}
		if math.Abs(float64(x)) < 0x1p52 {
			wantNumber(t, "SineTurns", impl.SineTurns(x), narrow(sine(from(float64(x)))))
		}
		if x != 0 || y != 0 {
			wantNumber(t, "AngleTurns", impl.AngleTurns(y, x), narrow(angle(y, x)))
		}
		if math.Abs(float64(x)) <= 200 {
			wantNumber(t, "ExpNumber", impl.ExpNumber(x), narrow(power(x)))
		}
		if x > 0 {
			l := logarithm(x)
			wantNumber(t, "LogNumber", impl.LogNumber(x), narrow(l))
			n, ok := impl.TenthsOf(x)
			want := l.times(from(43.42944819032518)).plus(from(0.5)).wide()
			wantSucceeds(t, "TenthsOf", n, ok, int64(math.Floor(want)))
		}
	}
}

// phasor returns both parts of a point of the unit circle.
func phasor(turns float64) (wide, wide) {
	f, q := part(turns), 0
	for f.wide() >= 0.25 {
		f, q = f.less(from(0.25)), q+1
	}
	c, s, none := sine(from(0.25).less(f)), sine(f), from(0)
	switch q {
	case 1:
		return none.less(s), c
	case 2:
		return none.less(c), none.less(s)
	case 3:
		return s, none.less(c)
	}
	return c, s
}

func wantPhasor(t *testing.T, turns float64) {
	t.Helper()
	a, b := phasor(turns)
	wantComplex(t, "PhasorOf", impl.PhasorOf(turns), narrow(a), narrow(b))
}

func TestPhasorIsRounded(t *testing.T) {
	list := draws(20001)
	for i := range list[:len(list)-1] {
		turns := float64(list[i]) + float64(list[i+1])/7
		if math.Abs(turns) < 0x1p52 {
			wantPhasor(t, turns)
		}
	}
}

// Where the narrowed sine becomes another number, each bit of the 64-bit one counts.
func TestPhasorWhereItsPartsChange(t *testing.T) {
	for i := range 400 {
		low, high := float64(i)/1600, float64(i+1)/1600
		least := narrow(sine(from(low)))
		for next := low + (high-low)/2; next > low && next < high; next = low + (high-low)/2 {
			if narrow(sine(from(next))) == least {
				low = next
			} else {
				high = next
			}
		}
		for range 4 {
			wantPhasor(t, low)
			wantPhasor(t, high)
			low, high = math.Nextafter(low, 0), math.Nextafter(high, 1)
		}
	}
}

// The functions are what their names tell, and not only as they were written.
func TestCirclesAreCircles(t *testing.T) {
	near := func(what string, got float32, want float64) {
		t.Helper()
		if math.Abs(float64(got)-want) > 1e-6*(1+math.Abs(want)) {
			t.Errorf("%s: got %v, want nearly %v", what, got, want)
		}
	}
	for i := -400; i <= 400; i++ {
		x := float32(i) / 97
		near("sine", impl.SineTurns(x), math.Sin(2*math.Pi*float64(x)))
		p := impl.PhasorOf(float64(x))
		near("cosine", real(p), math.Cos(2*math.Pi*float64(x)))
		near("sine of the phasor", imag(p), math.Sin(2*math.Pi*float64(x)))
		near("power of the phasor", impl.PowerOf(p), 1)
		near("angle", impl.AngleOf(p), math.Atan2(float64(imag(p)), float64(real(p)))/(2*math.Pi))
		near("power of e", impl.ExpNumber(x), math.Exp(float64(x)))
		near("logarithm of it", impl.LogNumber(impl.ExpNumber(x)), float64(x))
	}
}
