package fe_test

import (
	"math"
	"math/big"
	"strings"
	"testing"

	"mailsack/fe"
)

func modulus() *big.Int {
	p := new(big.Int).Lsh(big.NewInt(1), 255)
	return p.Sub(p, big.NewInt(19))
}

// value returns what the limbs represent, between 0 and the modulus.
func value(a fe.Num) *big.Int {
	v := new(big.Int)
	for i := 4; i >= 0; i-- {
		v.Lsh(v, 51)
		v.Add(v, new(big.Int).SetUint64(a[i]))
	}
	return v.Mod(v, modulus())
}

func encoded(v *big.Int) string {
	big := v.FillBytes(make([]byte, 32))
	out := make([]byte, 32)
	for i := range out {
		out[i] = big[31-i]
	}
	return string(out)
}

func decoded(s string) *big.Int {
	out := make([]byte, len(s))
	for i := range out {
		out[i] = s[len(s)-1-i]
	}
	return new(big.Int).SetBytes(out)
}

// samples are numbers with ordinary limbs and with limbs at their edges.
func samples() []fe.Num {
	const most = math.MaxUint64
	const limb = 1<<51 - 1
	l := []fe.Num{
		{}, {1}, {2}, {19}, {18}, {limb}, {0, 1}, {0, 0, 0, 0, 1}, {limb - 18, limb, limb, limb, limb},
		{limb - 19, limb, limb, limb, limb}, {limb - 17, limb, limb, limb, limb}, {limb, limb, limb, limb, limb},
		{most}, {0, most}, {0, 0, most}, {0, 0, 0, most}, {0, 0, 0, 0, most}, {most, most, most, most, most},
		{1 << 51}, {0, 1 << 51}, {0, 0, 0, 0, 1 << 51}, {0, 0, 0, 0, 1 << 63}, {1 << 63, 1 << 63, 1 << 63, 1 << 63, 1 << 63},
		{2 * (limb - 18), 2 * limb, 2 * limb, 2 * limb, 2 * limb},
		{limb + 1, limb, limb, limb, limb}, {most - 1, 0, most, 0, most},
	}
	x := uint64(88172645463325252)
	next := func() uint64 {
		x ^= x << 13
		x ^= x >> 7
		x ^= x << 17
		return x
	}
	for range 20 {
		l = append(l, fe.Num{next(), next(), next(), next(), next()})
		l = append(l, fe.Num{next() & limb, next() & limb, next() & limb, next() & limb, next() & limb})
	}
	return l
}

func check(t *testing.T, what string, got fe.Num, want *big.Int) {
	t.Helper()
	want = new(big.Int).Mod(want, modulus())
	if fe.Bytes(got) != encoded(want) {
		t.Errorf("%s: Bytes = %x, want %x", what, fe.Bytes(got), encoded(want))
	}
}

func TestP3_1Bytes(t *testing.T) {
	for _, a := range samples() {
		if got, want := fe.Bytes(a), encoded(value(a)); got != want {
			t.Errorf("Bytes(%v) = %x, want %x", a, got, want)
		}
	}
}

func TestP3_1Of(t *testing.T) {
	for _, a := range samples() {
		s := encoded(value(a))
		got, ok := fe.Of(s)
		if !ok || fe.Bytes(got) != s {
			t.Errorf("Of(%x) = %v, %v", s, got, ok)
		}
		high := s[:31] + string([]byte{s[31] | 0x80})
		if got, ok := fe.Of(high); !ok || fe.Bytes(got) != s {
			t.Errorf("Of(%x), highest bit set, = %v, %v", high, got, ok)
		}
	}
}

// Each single bit of the 32 bytes counts, but the highest one.
func TestP3_1OfEachBit(t *testing.T) {
	for bit := range 256 {
		s := make([]byte, 32)
		s[bit/8] = 1 << (bit % 8)
		want := new(big.Int)
		if bit < 255 {
			want.Lsh(big.NewInt(1), uint(bit))
		}
		got, ok := fe.Of(string(s))
		if !ok || value(got).Cmp(want) != 0 {
			t.Errorf("Of with bit %d = %v, %v", bit, got, ok)
		}
	}
}

// Encodings from the modulus on are read modulo 2^255 - 19.
func TestP3_1OfBeyondModulus(t *testing.T) {
	for low := 236; low < 256; low++ {
		for _, top := range []string{"\x7f", "\xff"} {
			s := string([]byte{byte(low)}) + strings.Repeat("\xff", 30) + top
			got, ok := fe.Of(s)
			want := encoded(new(big.Int).Mod(decoded(s[:31]+"\x7f"), modulus()))
			if !ok || fe.Bytes(got) != want {
				t.Errorf("Of(%x): %x, want %x", s, fe.Bytes(got), want)
			}
		}
	}
}

func TestP3_1OfOtherLengths(t *testing.T) {
	for _, n := range []int{0, 1, 31, 33, 64} {
		if got, ok := fe.Of(strings.Repeat("\x01", n)); ok || got != (fe.Num{}) {
			t.Errorf("Of %d bytes = %v, %v", n, got, ok)
		}
	}
}

func TestP3_2AddSubMul(t *testing.T) {
	l := samples()
	for _, a := range l {
		for _, b := range l {
			check(t, "Add", fe.Add(a, b), new(big.Int).Add(value(a), value(b)))
			check(t, "Sub", fe.Sub(a, b), new(big.Int).Sub(value(a), value(b)))
			check(t, "Mul", fe.Mul(a, b), new(big.Int).Mul(value(a), value(b)))
		}
	}
}

func TestP3_2Small(t *testing.T) {
	for _, a := range samples() {
		for _, n := range []uint32{0, 1, 2, 9, 121665, 1 << 31, math.MaxUint32} {
			check(t, "Small", fe.Small(a, n), new(big.Int).Mul(value(a), new(big.Int).SetUint64(uint64(n))))
		}
	}
}

func TestP3_2Invert(t *testing.T) {
	power := new(big.Int).Sub(modulus(), big.NewInt(2))
	for _, a := range samples() {
		check(t, "Invert", fe.Invert(a), new(big.Int).Exp(value(a), power, modulus()))
	}
}

func TestP3_2Swap(t *testing.T) {
	l := samples()
	for i, a := range l {
		b := l[(i+7)%len(l)]
		if x, y := fe.Swap(a, b, false); x != a || y != b {
			t.Errorf("Swap(%v, %v, false) = %v, %v", a, b, x, y)
		}
		if x, y := fe.Swap(a, b, true); x != b || y != a {
			t.Errorf("Swap(%v, %v, true) = %v, %v", a, b, x, y)
		}
	}
}

func TestP3_3Field(t *testing.T) {
	one := encoded(big.NewInt(1))
	for i, a := range samples() {
		l := samples()
		b, c := l[(i+3)%len(l)], l[(i+11)%len(l)]
		left := fe.Mul(a, fe.Add(b, c))
		right := fe.Add(fe.Mul(a, b), fe.Mul(a, c))
		if fe.Bytes(left) != fe.Bytes(right) {
			t.Errorf("a (b + c) is not a b + a c for %v", a)
		}
		if fe.Bytes(fe.Add(fe.Sub(a, b), b)) != fe.Bytes(a) {
			t.Errorf("a - b + b is not a for %v", a)
		}
		product := fe.Bytes(fe.Mul(a, fe.Invert(a)))
		if value(a).Sign() != 0 && product != one {
			t.Errorf("%v times its inverse is %x", a, product)
		}
	}
	if got := fe.Bytes(fe.Sub(fe.Num{}, fe.Num{1})); got != "\xec"+strings.Repeat("\xff", 30)+"\x7f" {
		t.Errorf("0 - 1 = %x", got)
	}
}
