package impl

import (
	"math"
	"strconv"
	"strings"
)

// Products are converted to their own type before they are added to something: without this,
// Go may fuse both operations into one that is rounded once.

// Limits of chapter 1.
const (
	MaxNumbers = 256
	MaxValue   = 1000000000000000
	MaxItems   = 64
	CheckSize  = 65003
)

// From this number of turns on, a 64-bit number has no places behind the point.
const wholeTurns = 1 << 52

// SameNumber reports whether two numbers are the same.
func SameNumber(a, b float32) bool {
	return BitsOf(a) == BitsOf(b)
}

// IsFinite reports whether x is finite.
func IsFinite(x float32) bool {
	return isFinite64(float64(x))
}

func isFinite64(x float64) bool {
	return !math.IsNaN(x) && !math.IsInf(x, 0)
}

// notANumber has one fixed set of bits, so that equal arguments give equal results.
func notANumber() float32 {
	return math.Float32frombits(0x7fc00000)
}

// BitsOf returns the bits of a number, and the same ones for all not-a-numbers.
func BitsOf(x float32) int64 {
	if math.IsNaN(float64(x)) {
		x = notANumber()
	}
	return int64(math.Float32bits(x))
}

// FromBits returns the number with the given bits.
func FromBits(n int64) (float32, bool) {
	if n < 0 || n > math.MaxUint32 {
		return 0, false
	}
	return math.Float32frombits(uint32(n)), true
}

// NarrowNumber returns the nearest 32-bit number.
func NarrowNumber(x float64) float32 {
	return float32(x)
}

// IsSubnormal reports whether x is subnormal.
func IsSubnormal(x float32) bool {
	return x != 0 && x > -0x1p-126 && x < 0x1p-126
}

// FlushNumber returns x, but a zero with its sign if it is subnormal.
func FlushNumber(x float32) float32 {
	if IsSubnormal(x) {
		return float32(math.Copysign(0, float64(x)))
	}
	return x
}

// SameComplex reports whether two complex numbers are the same.
func SameComplex(a, b complex64) bool {
	return SameNumber(real(a), real(b)) && SameNumber(imag(a), imag(b))
}

// IsFiniteComplex reports whether both parts are finite.
func IsFiniteComplex(x complex64) bool {
	return IsFinite(real(x)) && IsFinite(imag(x))
}

// NarrowComplex returns a number with narrowed parts.
func NarrowComplex(x complex128) complex64 {
	return complex(NarrowNumber(real(x)), NarrowNumber(imag(x)))
}

// wideProduct avoids Go's own complex product, which may fuse operations.
func wideProduct(x, y complex64) complex128 {
	a, b := float64(real(x)), float64(imag(x))
	c, d := float64(real(y)), float64(imag(y))
	return complex(float64(a*c)-float64(b*d), float64(a*d)+float64(b*c))
}

func widePower(x complex64) float64 {
	a, b := float64(real(x)), float64(imag(x))
	return float64(a*a) + float64(b*b)
}

// MulComplex returns a product.
func MulComplex(x, y complex64) complex64 {
	return NarrowComplex(wideProduct(x, y))
}

// ScaleComplex returns a product with a number.
func ScaleComplex(x complex64, by float32) complex64 {
	return complex(float32(real(x)*by), float32(imag(x)*by))
}

// ConjugateOf returns the conjugate.
func ConjugateOf(x complex64) complex64 {
	return complex(real(x), -imag(x))
}

// PowerOf returns the power.
func PowerOf(x complex64) float32 {
	return NarrowNumber(widePower(x))
}

// LongOf returns the root of the power, which is narrowed only once, behind the root.
func LongOf(x complex64) float32 {
	return NarrowNumber(math.Sqrt(widePower(x)))
}

// QuotientOf returns a quotient.
func QuotientOf(x, y complex64) complex64 {
	p, by := wideProduct(x, ConjugateOf(y)), widePower(y)
	return NarrowComplex(complex(real(p)/by, imag(p)/by))
}

// radiansPerTurn is a function since floats do not stand at package level.
func radiansPerTurn() float64 {
	return 6.283185307179586
}

// partOfTurn goes through an integer to cut places off: its 0 has no sign, so that -0 stays -0.
// The result can be 1, where a small negative number of turns is rounded away.
func partOfTurn(turns float64) float64 {
	f := turns - float64(int64(turns))
	if f < 0 {
		f++
	}
	return f
}

// sineOf takes turns with an absolute value of less than wholeTurns.
func sineOf(turns float64) float64 {
	f := partOfTurn(turns)
	lower := f >= 0.5
	if lower {
		f -= 0.5
	}
	if f > 0.25 {
		f = 0.5 - f
	}
	z := f * radiansPerTurn()
	u := z * z
	p := 1.0
	for k := 8.0; k >= 1; k-- {
		p = 1 - (u*p)/(2*k*(2*k+1))
	}
	sine := float64(z * p)
	if lower {
		return -sine
	}
	return sine
}

// PhasorOf returns a point of the unit circle.
func PhasorOf(turns float64) complex64 {
	if !isFinite64(turns) {
		return complex(notANumber(), notANumber())
	}
	if math.Abs(turns) >= wholeTurns {
		return 1
	}
	f, quarters := partOfTurn(turns), 0
	for f >= 0.25 {
		f -= 0.25
		quarters++
	}
	c, s := sineOf(0.25-f), sineOf(f)
	// A difference with 0, unlike the opposite, has no -0.
	switch quarters {
	case 1:
		return NarrowComplex(complex(0-s, c))
	case 2:
		return NarrowComplex(complex(0-c, 0-s))
	case 3:
		return NarrowComplex(complex(s, 0-c))
	}
	return NarrowComplex(complex(c, s))
}

// AngleOf returns the angle in turns.
func AngleOf(x complex64) float32 {
	return AngleTurns(imag(x), real(x))
}

// SineTurns returns the sine of some turns.
func SineTurns(x float32) float32 {
	if !IsFinite(x) {
		return notANumber()
	}
	if math.Abs(float64(x)) >= wholeTurns {
		return 0
	}
	return NarrowNumber(sineOf(float64(x)))
}

// AngleTurns returns the angle of a point.
func AngleTurns(y, x float32) float32 {
	if !IsFinite(y) || !IsFinite(x) {
		return notANumber()
	}
	if y == 0 && x == 0 {
		return 0
	}
	a, b := math.Abs(float64(y)), math.Abs(float64(x))
	var angle float64
	if a > b {
		angle = 0.25 - flatAngle(b/a)
	} else {
		angle = flatAngle(a / b)
	}
	if x < 0 {
		angle = 0.5 - angle
	}
	if y < 0 {
		angle = -angle
	}
	return NarrowNumber(angle)
}

// flatAngle takes a slope from 0 to 1; the angle is halved three times, so that the series is short.
func flatAngle(t float64) float64 {
	for range 3 {
		t = t / (1 + math.Sqrt(1+float64(t*t)))
	}
	u := t * t
	p := 0.0
	for k := 15.0; k >= 1; k -= 2 {
		p = 1/k - float64(u*p)
	}
	return (8 * (t * p)) / radiansPerTurn()
}

// logOf takes a finite number greater than 0.
func logOf(power float32) float64 {
	x, e := float64(power), 0.0
	for x >= 1.5 {
		x /= 2
		e++
	}
	for x < 0.75 {
		x *= 2
		e--
	}
	s := (x - 1) / (x + 1)
	u := s * s
	q := 0.0
	for k := 25.0; k >= 1; k -= 2 {
		q = 1/k + float64(u*q)
	}
	return float64(2*float64(s*q)) + float64(e*0.6931471805599453)
}

// TenthsOf returns tenths of decibels.
func TenthsOf(power float32) (int64, bool) {
	if !IsFinite(power) || power <= 0 {
		return 0, false
	}
	return int64(math.Floor(float64(logOf(power)*43.42944819032518) + 0.5)), true
}

// RootNumber returns the square root.
func RootNumber(x float32) float32 {
	return NarrowNumber(math.Sqrt(float64(x)))
}

// ExpNumber returns e to a power.
func ExpNumber(x float32) float32 {
	if x > 200 {
		return float32(math.Inf(1))
	}
	if x < -200 {
		return 0
	}
	t := float64(x) / 256
	p := 1.0
	for k := 12.0; k >= 1; k-- {
		p = 1 + (t*p)/k
	}
	for range 8 {
		p *= p
	}
	return NarrowNumber(p)
}

// LogNumber returns the logarithm.
func LogNumber(x float32) float32 {
	switch {
	case x == 0:
		return float32(math.Inf(-1))
	case math.IsNaN(float64(x)) || x < 0:
		return notANumber()
	case !IsFinite(x):
		return x
	}
	return NarrowNumber(logOf(x))
}

// SumNumbers returns the sum from left to right.
func SumNumbers(list []float32) (float32, bool) {
	if len(list) > MaxNumbers {
		return 0, false
	}
	sum := float32(0)
	for _, x := range list {
		sum += x
	}
	return sum, true
}

// DotNumbers returns the sum of products.
func DotNumbers(a, b []float32) (float32, bool) {
	if len(a) != len(b) || len(a) > MaxNumbers {
		return 0, false
	}
	sum := float32(0)
	for i, x := range a {
		sum += float32(x * b[i])
	}
	return sum, true
}

// SumComplex returns the sum from left to right.
func SumComplex(list []complex64) (complex64, bool) {
	if len(list) > MaxNumbers {
		return 0, false
	}
	sum := complex64(0)
	for _, x := range list {
		sum += x
	}
	return sum, true
}

// DotComplex returns the sum of products.
func DotComplex(a, b []complex64) (complex64, bool) {
	return dotWith(MulComplex, a, b)
}

// DotConjugate returns the sum of products with conjugates.
func DotConjugate(a, b []complex64) (complex64, bool) {
	return dotWith(mulConjugate, a, b)
}

func mulConjugate(x, y complex64) complex64 {
	return MulComplex(ConjugateOf(x), y)
}

func dotWith(product func(x, y complex64) complex64, a, b []complex64) (complex64, bool) {
	if len(a) != len(b) || len(a) > MaxNumbers {
		return 0, false
	}
	sum := complex64(0)
	for i, x := range a {
		sum += product(x, b[i])
	}
	return sum, true
}

// PowersOf returns the sum of powers, which is narrowed only once, in the end.
func PowersOf(list []complex64) (float32, bool) {
	if len(list) > MaxNumbers {
		return 0, false
	}
	sum := 0.0
	for _, x := range list {
		sum += widePower(x)
	}
	return NarrowNumber(sum), true
}

// NumbersText returns the text of numbers.
func NumbersText(list []float32) (string, bool) {
	return textOfAll(numberText, list, MaxNumbers)
}

// ReadNumbers returns the numbers with the given text.
func ReadNumbers(s string) ([]float32, bool) {
	return readAll(readNumber, s, MaxNumbers)
}

// ComplexText returns the text of complex numbers.
func ComplexText(list []complex64) (string, bool) {
	return textOfAll(complexText, list, MaxNumbers)
}

// ReadComplex returns the complex numbers with the given text.
func ReadComplex(s string) ([]complex64, bool) {
	return readAll(readComplex, s, MaxNumbers)
}

func numberText(x float32) string {
	digits := strconv.FormatInt(BitsOf(x), 16)
	return strings.Repeat("0", 8-len(digits)) + digits
}

// readNumber reads the number back, since only one set of bits is the text of a not-a-number.
func readNumber(s string) (float32, bool) {
	if len(s) != 8 {
		return 0, false
	}
	bits := int64(0)
	for _, r := range s {
		digit, ok := hexDigit(r)
		if !ok {
			return 0, false
		}
		bits = 16*bits + digit
	}
	x, ok := FromBits(bits)
	if !ok || BitsOf(x) != bits {
		return 0, false
	}
	return x, true
}

func hexDigit(r rune) (int64, bool) {
	switch {
	case r >= '0' && r <= '9':
		return int64(r - '0'), true
	case r >= 'a' && r <= 'f':
		return int64(r-'a') + 10, true
	}
	return 0, false
}

func complexText(x complex64) string {
	return numberText(real(x)) + numberText(imag(x))
}

func readComplex(s string) (complex64, bool) {
	if len(s) != 16 {
		return 0, false
	}
	re, ok := readNumber(s[:8])
	im, too := readNumber(s[8:])
	if !ok || !too {
		return 0, false
	}
	return complex(re, im), true
}

// textOfAll and readAll share how a list is told: `,` between items, and `none` for no items.
func textOfAll[T any](text func(T) string, list []T, most int) (string, bool) {
	if len(list) > most {
		return "", false
	}
	if len(list) == 0 {
		return "none", true
	}
	texts := make([]string, len(list))
	for i, x := range list {
		texts[i] = text(x)
	}
	return strings.Join(texts, ","), true
}

func readAll[T any](read func(string) (T, bool), s string, most int) ([]T, bool) {
	if s == "none" {
		return nil, true
	}
	// One text more than allowed is enough to tell that there are too many.
	texts := strings.SplitN(s, ",", most+1)
	if len(texts) > most {
		return nil, false
	}
	list := make([]T, len(texts))
	for i, t := range texts {
		x, ok := read(t)
		if !ok {
			return nil, false
		}
		list[i] = x
	}
	return list, true
}

// IsName reports whether s is a name.
func IsName(s string) bool {
	if len(s) < 1 || len(s) > 8 {
		return false
	}
	for _, r := range s {
		if r < 'a' || r > 'z' {
			return false
		}
	}
	return true
}

// Decimal returns n in decimal.
func Decimal(n int64) string {
	return strconv.FormatInt(n, 10)
}

func isValue(n int64) bool {
	return n >= -MaxValue && n <= MaxValue
}

// ReadDecimal returns the number with the given decimal text; other texts of it, as with a `+`, are none.
func ReadDecimal(s string) (int64, bool) {
	n, err := strconv.ParseInt(s, 10, 64)
	if err != nil || !isValue(n) || Decimal(n) != s {
		return 0, false
	}
	return n, true
}

// ListText returns the text of a list.
func ListText(list []int64) (string, bool) {
	for _, n := range list {
		if !isValue(n) {
			return "", false
		}
	}
	return textOfAll(Decimal, list, MaxItems)
}

// ReadList returns the list with the given text.
func ReadList(s string) ([]int64, bool) {
	return readAll(ReadDecimal, s, MaxItems)
}

// CheckOf returns the check number of a text.
func CheckOf(start int64, s string) (int64, bool) {
	if start < 0 || start >= CheckSize {
		return 0, false
	}
	check := start
	for i := range len(s) {
		check = (839*check + int64(s[i]) + 137) % CheckSize
	}
	return check, true
}
