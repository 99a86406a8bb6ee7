package header_test

import (
	"math"
	"testing"

	"colloquy/header"
)

// P2.1: each field has its bits.
func TestFields(t *testing.T) {
	for _, x := range []struct {
		h    header.Head
		want uint32
	}{
		{header.Head{}, 0},
		{header.Head{Size: 3, Fmt: 1, Live: true}, 0x00810003},
		{header.Head{Size: 1}, 1},
		{header.Head{Size: 0xffff}, 0xffff},
		{header.Head{Fmt: 1}, 1 << 16},
		{header.Head{Fmt: 3}, 3 << 16},
		{header.Head{Odd: 1}, 1 << 18},
		{header.Head{Odd: 3}, 3 << 18},
		{header.Head{Colour: header.Grey}, 1 << 20},
		{header.Head{Colour: header.Black}, 2 << 20},
		{header.Head{Final: true}, 1 << 22},
		{header.Head{Live: true}, 1 << 23},
	} {
		if got := header.Put(x.h); got != x.want {
			t.Errorf("Put(%v) is %08x, not %08x", x.h, got, x.want)
		}
		if got := header.Get(x.want); got != x.h {
			t.Errorf("Get(%08x) is %v, not %v", x.want, got, x.h)
		}
	}
	if header.White != 0 || header.Grey != 1 || header.Black != 2 {
		t.Error("colours")
	}
}

// P2.1: of a number that has more bits, the lowest.
func TestLowestBits(t *testing.T) {
	for _, x := range []struct {
		h    header.Head
		want uint32
	}{
		{header.Head{Size: 1 << 16}, 0},
		{header.Head{Size: 1<<16 + 5}, 5},
		{header.Head{Size: -1}, 0xffff},
		{header.Head{Fmt: 4}, 0},
		{header.Head{Fmt: -1}, 3 << 16},
		{header.Head{Odd: 5}, 1 << 18},
		{header.Head{Odd: -2}, 2 << 18},
		{header.Head{Colour: 6}, 2 << 20},
		{header.Head{Colour: math.MinInt}, 0},
		{header.Head{Size: math.MaxInt, Fmt: math.MaxInt, Odd: math.MaxInt, Colour: math.MaxInt}, 0x3fffff},
	} {
		if got := header.Put(x.h); got != x.want {
			t.Errorf("Put(%v) is %08x, not %08x", x.h, got, x.want)
		}
	}
}

// P2.2: what is put is got, and the bits above play no part.
func TestPutIsGot(t *testing.T) {
	for bits := 0; bits < 1<<8; bits++ {
		for _, size := range []int{0, 1, 63, 0x8000, 0xffff} {
			h := header.Head{Size: size, Fmt: bits & 3, Odd: bits >> 2 & 3, Colour: bits >> 4 & 3, Final: bits>>6&1 == 1, Live: bits>>7&1 == 1}
			w := header.Put(h)
			if w>>24 != 0 {
				t.Fatalf("Put(%v) has bits above: %08x", h, w)
			}
			if got := header.Get(w); got != h {
				t.Fatalf("%v comes back as %v", h, got)
			}
			if got := header.Get(w | 0xff<<24); got != h {
				t.Fatalf("%v with bits above comes back as %v", h, got)
			}
		}
	}
}
