package nat_test

import (
	"math"
	"math/big"
	"slices"
	"testing"

	"quittance/api"
	"quittance/nat"
)

const top = 999_999_999

// whole answers what a is worth, told by the library's own numbers.
func whole(a api.Nat) *big.Int {
	n := new(big.Int)
	for i := len(a) - 1; i >= 0; i-- {
		n.Mul(n, big.NewInt(top+1))
		n.Add(n, big.NewInt(int64(a[i])))
	}
	return n
}

// times answers a number of n limbs that are all alike.
func times(limb uint32, n int) api.Nat {
	return api.Nat(slices.Repeat([]uint32{limb}, n))
}

// joined answers the limbs of all parts behind each other.
func joined(parts ...api.Nat) api.Nat {
	return slices.Concat(parts...)
}

// samples answers right numbers: at the edges of limbs and of 2^64, with long carries and borrows, and some of no pattern.
func samples() []api.Nat {
	l := []api.Nat{
		nil, {}, {1}, {2}, {3}, {10}, {top - 1}, {top},
		{0, 1}, {1, 1}, {top, 1}, {0, 2}, {top, top}, {top - 1, top},
		{0, 0, 1}, {1, 0, 1}, {0, 1, 1}, {top, top, top},
		{294967295, 4}, {294967296, 4},
		{854775807, 223372036, 9}, {854775808, 223372036, 9},
		{709551615, 446744073, 18}, {709551616, 446744073, 18}, {709551615, 446744074, 18},
		{0, 446744073, 18}, {0, 446744074, 18}, {709551615, 446744073, 19}, {0, 0, 19}, {0, 0, 0, 1},
		times(top, 40), joined(times(0, 40), api.Nat{1}), joined(times(0, 39), api.Nat{1}),
		joined(api.Nat{1}, times(top, 20)), joined(times(0, 20), times(top, 20)), joined(times(top, 20), times(0, 20), api.Nat{7}),
	}
	state := uint64(12345)
	for i := range 30 {
		var a api.Nat
		for range i%7 + 1 {
			state = state*6364136223846793005 + 1442695040888963407
			a = append(a, uint32(state>>33)%top+1)
		}
		l = append(l, a)
	}
	return l
}

// twisted answers lists that are no right numbers.
func twisted() []api.Nat {
	return []api.Nat{
		{0}, {0, 0}, {5, 0}, {top + 1}, {math.MaxUint32}, {math.MaxUint32, math.MaxUint32, math.MaxUint32},
		{0, math.MaxUint32}, {math.MaxUint32, 0, 0, 0}, times(math.MaxUint32, 9), joined(times(math.MaxUint32, 9), times(0, 9)),
	}
}

// is checks that got is right, and worth want.
func is(t *testing.T, what string, got api.Nat, want *big.Int) {
	t.Helper()
	if !nat.Right(got) {
		t.Errorf("%s: %v is not right", what, got)
	}
	if whole(got).Cmp(want) != 0 {
		t.Errorf("%s: %v, want %v", what, whole(got), want)
	}
}

// P1.1
func TestRight(t *testing.T) {
	for _, a := range samples() {
		if !nat.Right(a) {
			t.Errorf("Right(%v): false", a)
		}
	}
	for _, a := range append(twisted(), api.Nat{top + 1, 1}, api.Nat{1, top + 1, 1}, api.Nat{1, 2, top + 1}, api.Nat{1, 2, 0}) {
		if nat.Right(a) {
			t.Errorf("Right(%v): true", a)
		}
	}
}

// P1.2
func TestTrim(t *testing.T) {
	tests := []struct {
		l    []uint32
		want api.Nat
	}{
		{nil, nil}, {[]uint32{}, nil}, {[]uint32{0}, nil}, {[]uint32{0, 0, 0}, nil},
		{[]uint32{7}, api.Nat{7}}, {[]uint32{7, 0}, api.Nat{7}}, {[]uint32{0, 7, 0, 0}, api.Nat{0, 7}},
		{[]uint32{0, 0, 7}, api.Nat{0, 0, 7}}, {[]uint32{7, 0, 7, 0}, api.Nat{7, 0, 7}}, {[]uint32{top, top}, api.Nat{top, top}},
	}
	for _, c := range tests {
		if got := nat.Trim(c.l); !slices.Equal(got, c.want) {
			t.Errorf("Trim(%v): %v, want %v", c.l, got, c.want)
		}
	}
	for _, a := range samples() {
		if got := nat.Trim(joined(a, times(0, 3))); !slices.Equal(got, a) {
			t.Errorf("Trim of %v and three noughts: %v", a, got)
		}
	}
}

// P1.3
func TestMake(t *testing.T) {
	tests := []struct {
		n    uint64
		want api.Nat
	}{
		{0, nil}, {1, api.Nat{1}}, {top, api.Nat{top}}, {top + 1, api.Nat{0, 1}}, {top + 2, api.Nat{1, 1}},
		{math.MaxUint32, api.Nat{294967295, 4}}, {999_999_999_999_999_999, api.Nat{top, top}}, {1_000_000_000_000_000_000, api.Nat{0, 0, 1}},
		{1 << 63, api.Nat{854775808, 223372036, 9}}, {math.MaxUint64, api.Nat{709551615, 446744073, 18}},
	}
	for _, c := range tests {
		if got := nat.Make(c.n); !slices.Equal(got, c.want) {
			t.Errorf("Make(%d): %v, want %v", c.n, got, c.want)
		}
	}
}

// P1.4
func TestCmp(t *testing.T) {
	for _, a := range samples() {
		for _, b := range samples() {
			want := whole(a).Cmp(whole(b))
			if got := nat.Cmp(a, b); got != want {
				t.Errorf("Cmp(%v, %v): %d, want %d", a, b, got, want)
			}
			if got := nat.Same(a, b); got != (want == 0) {
				t.Errorf("Same(%v, %v): %v", a, b, got)
			}
		}
	}
}

// P1.5
func TestAdd(t *testing.T) {
	if got := nat.Add(api.Nat{top, top}, api.Nat{1}); !slices.Equal(got, api.Nat{0, 0, 1}) {
		t.Errorf("Add carries to %v", got)
	}
	for _, a := range samples() {
		for _, b := range samples() {
			is(t, "Add", nat.Add(a, b), new(big.Int).Add(whole(a), whole(b)))
		}
	}
}

// P1.6
func TestSub(t *testing.T) {
	for _, a := range samples() {
		for _, b := range samples() {
			got, err := nat.Sub(a, b)
			if whole(a).Cmp(whole(b)) < 0 {
				if err != api.ErrArg || len(got) != 0 {
					t.Errorf("Sub(%v, %v): %v, %d, want nothing and ErrArg", a, b, got, err)
				}
				continue
			}
			if err != api.OK {
				t.Errorf("Sub(%v, %v): error %d", a, b, err)
			}
			is(t, "Sub", got, new(big.Int).Sub(whole(a), whole(b)))
		}
	}
}

// P1.7
func TestEven(t *testing.T) {
	for _, a := range samples() {
		if got, want := nat.Even(a), whole(a).Bit(0) == 0; got != want {
			t.Errorf("Even(%v): %v, want %v", a, got, want)
		}
	}
}

// P1.8
func TestSmall(t *testing.T) {
	for _, a := range samples() {
		got, is := nat.Small(a)
		want := whole(a)
		switch {
		case want.IsUint64() && (!is || got != want.Uint64()):
			t.Errorf("Small(%v): %d, %v, want %v", a, got, is, want)
		case !want.IsUint64() && (is || got != 0):
			t.Errorf("Small(%v): %d, %v, want 0, false", a, got, is)
		}
	}
	for _, n := range []uint64{0, 1, top, top + 1, 1 << 63, math.MaxUint64 - 1, math.MaxUint64} {
		if got, is := nat.Small(nat.Make(n)); got != n || !is {
			t.Errorf("Small(Make(%d)): %d, %v", n, got, is)
		}
	}
}

// P1.9
func TestSumsInAnyOrder(t *testing.T) {
	for _, a := range samples() {
		for _, b := range samples() {
			sum := nat.Add(a, b)
			if !nat.Same(sum, nat.Add(b, a)) {
				t.Errorf("%v and %v: not the same in the other order", a, b)
			}
			if back, err := nat.Sub(sum, b); err != api.OK || !nat.Same(back, a) {
				t.Errorf("%v and %v, less the second: %v, %d", a, b, back, err)
			}
			for _, c := range samples() {
				if !nat.Same(nat.Add(sum, c), nat.Add(a, nat.Add(b, c))) {
					t.Errorf("%v, %v, %v: not the same together in another way", a, b, c)
				}
			}
		}
	}
}

// P1.9
func TestCmpIsAnOrder(t *testing.T) {
	for _, a := range samples() {
		if nat.Cmp(a, a) != 0 {
			t.Errorf("%v is not the same as itself", a)
		}
		for _, b := range samples() {
			if nat.Cmp(a, b) != -nat.Cmp(b, a) {
				t.Errorf("%v and %v: not the other way round", a, b)
			}
			for _, c := range samples() {
				if nat.Cmp(a, b) <= 0 && nat.Cmp(b, c) <= 0 && nat.Cmp(a, c) > 0 {
					t.Errorf("%v, %v, %v: no order", a, b, c)
				}
			}
		}
	}
}

// callAll calls all that takes a and b, and answers the lists that come of it.
func callAll(a, b api.Nat) []api.Nat {
	nat.Right(a)
	nat.Cmp(a, b)
	nat.Same(a, b)
	nat.Even(a)
	nat.Small(a)
	rest, _ := nat.Sub(a, b)
	return []api.Nat{nat.Trim(a), nat.Add(a, b), rest}
}

// R1
func TestNothingPanics(t *testing.T) {
	l := append(samples(), twisted()...)
	for _, a := range l {
		for _, b := range l {
			callAll(a, b)
		}
	}
}

// roomy answers a with room behind its end, and all of that room.
func roomy(a api.Nat) (api.Nat, []uint32) {
	room := slices.Concat(a, times(77, 4))
	return api.Nat(room[:len(a)]), room
}

// R3
func TestMemoryIsNew(t *testing.T) {
	l := append(samples(), twisted()...)
	for _, a := range l {
		for _, b := range l {
			x, xRoom := roomy(a)
			y, yRoom := roomy(b)
			answers := callAll(x, y)
			for _, answer := range answers {
				answer = answer[:cap(answer)]
				for i := range answer {
					answer[i] = 55
				}
			}
			if !slices.Equal(xRoom, joined(a, times(77, 4))) || !slices.Equal(yRoom, joined(b, times(77, 4))) {
				t.Fatalf("%v and %v were changed, or are shared", a, b)
			}
		}
	}
}
