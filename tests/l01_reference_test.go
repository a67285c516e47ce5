package tests

import (
	"math"
	"math/big"
)

// wide is a 64-bit number whose operations are rounded one by one by math/big, whatever the machine fuses.
// It has no subnormal numbers: tests with it stay away from them.
type wide struct {
	v *big.Float
}

func blank() *big.Float {
	return new(big.Float).SetPrec(53)
}

func toWide(x float64) wide { return wide{blank().SetFloat64(x)} }

func (a wide) plus(b wide) wide  { return wide{blank().Add(a.v, b.v)} }
func (a wide) less(b wide) wide  { return wide{blank().Sub(a.v, b.v)} }
func (a wide) times(b wide) wide { return wide{blank().Mul(a.v, b.v)} }
func (a wide) by(b wide) wide    { return wide{blank().Quo(a.v, b.v)} }
func (a wide) root() wide        { return wide{blank().Sqrt(a.v)} }
func (a wide) atLeast(x float64) bool {
	return a.v.Cmp(big.NewFloat(x)) >= 0
}

func (a wide) opposite() wide { return wide{blank().Neg(a.v)} }

// narrow rounds once, to subnormal numbers as well.
func (a wide) narrow() float32 {
	x, _ := a.v.Float32()
	return x
}

func wideFraction(turns float64) wide {
	whole := math.Trunc(turns)
	if whole == 0 {
		whole = 0 // no -0
	}
	f := toWide(turns).less(toWide(whole))
	if f.v.Sign() < 0 {
		f = f.plus(toWide(1))
	}
	return f
}

func wideSine(turns wide) wide {
	x, _ := turns.v.Float64()
	f := wideFraction(x)
	turned := f.atLeast(0.5)
	if turned {
		f = f.less(toWide(0.5))
	}
	if f.v.Cmp(big.NewFloat(0.25)) > 0 {
		f = toWide(0.5).less(f)
	}
	z := f.times(toWide(6.283185307179586))
	u, p := z.times(z), toWide(1)
	for k := 8; k >= 1; k-- {
		p = toWide(1).less(u.times(p).by(toWide(float64(2 * k * (2*k + 1)))))
	}
	if turned {
		return z.times(p).opposite()
	}
	return z.times(p)
}

func widePhasor(turns float64) complex64 {
	f, q := wideFraction(turns), 0
	for f.atLeast(0.25) {
		f, q = f.less(toWide(0.25)), q+1
	}
	c, s, zero := wideSine(toWide(0.25).less(f)), wideSine(f), toWide(0)
	switch q {
	case 1:
		return complex(zero.less(s).narrow(), c.narrow())
	case 2:
		return complex(zero.less(c).narrow(), zero.less(s).narrow())
	case 3:
		return complex(s.narrow(), zero.less(c).narrow())
	}
	return complex(c.narrow(), s.narrow())
}

func wideAngle(y, x float32) float32 {
	a, b := toWide(math.Abs(float64(y))), toWide(math.Abs(float64(x)))
	steep := a.v.Cmp(b.v) > 0
	t := a
	if steep {
		t = b.by(a)
	} else {
		t = a.by(b)
	}
	for range 3 {
		t = t.by(toWide(1).plus(toWide(1).plus(t.times(t)).root()))
	}
	u, p := t.times(t), toWide(0)
	for k := 15; k > 0; k -= 2 {
		p = toWide(1).by(toWide(float64(k))).less(u.times(p))
	}
	angle := toWide(8).times(t.times(p)).by(toWide(6.283185307179586))
	if steep {
		angle = toWide(0.25).less(angle)
	}
	if x < 0 {
		angle = toWide(0.5).less(angle)
	}
	if y < 0 {
		angle = angle.opposite()
	}
	return angle.narrow()
}

func wideLog(power float32) wide {
	fraction, exponent := math.Frexp(float64(power)) // from 0.5 to less than 1
	if fraction < 0.75 {
		fraction, exponent = 2*fraction, exponent-1
	}
	x := toWide(fraction)
	s := x.less(toWide(1)).by(x.plus(toWide(1)))
	u, q := s.times(s), toWide(0)
	for k := 25; k > 0; k -= 2 {
		q = toWide(1).by(toWide(float64(k))).plus(u.times(q))
	}
	return toWide(2).times(s.times(q)).plus(toWide(float64(exponent)).times(toWide(0.6931471805599453)))
}

func wideTenths(power float32) int64 {
	x := wideLog(power).times(toWide(43.42944819032518)).plus(toWide(0.5))
	f, _ := x.v.Float64()
	return int64(math.Floor(f))
}

func wideExp(x float32) float32 {
	t, p := toWide(float64(x)).by(toWide(256)), toWide(1)
	for k := 12; k >= 1; k-- {
		p = toWide(1).plus(t.times(p).by(toWide(float64(k))))
	}
	for range 8 {
		p = p.times(p)
	}
	return p.narrow()
}
