package crc

import (
	"bytes"
	"hash/crc32"
	"math"
	"math/rand"
	"testing"

	"almoner/api"
)

// plainSum is the sum as the document tells it, bit by bit.
func plainSum(b []byte) uint32 {
	register := uint32(0xffffffff)
	for _, c := range b {
		for place := range 8 {
			add := register&1 != uint32(c)>>place&1
			register >>= 1
			if add {
				register ^= 0x82f63b78
			}
		}
	}
	return ^register
}

func someBytes(r *rand.Rand, n int) []byte {
	b := make([]byte, n)
	r.Read(b)
	return b
}

// P1.1: the document's examples.
func TestExamples(t *testing.T) {
	for _, c := range []struct {
		b    []byte
		want uint32
	}{
		{nil, 0},
		{[]byte{}, 0},
		{[]byte("123456789"), 0xe3069283},
		{make([]byte, 32), 0x8a9136aa},
		{bytes.Repeat([]byte{0xff}, 32), 0x62a8ab43},
	} {
		if got := Sum(c.b); got != c.want {
			t.Errorf("Sum(%x) = %08x, want %08x", c.b, got, c.want)
		}
	}
}

// P1.1: Sum is the register's sum, for every byte and for long lists.
func TestSumIsTheRegisters(t *testing.T) {
	table := crc32.MakeTable(crc32.Castagnoli)
	check := func(b []byte) {
		before := bytes.Clone(b)
		got := Sum(b)
		if want := plainSum(b); got != want {
			t.Fatalf("Sum(%x) = %08x, want %08x", b, got, want)
		}
		if want := crc32.Checksum(b, table); got != want {
			t.Fatalf("Sum(%x) = %08x, the library's %08x", b, got, want)
		}
		if !bytes.Equal(b, before) {
			t.Fatalf("Sum wrote into its argument")
		}
	}
	for c := range 256 {
		check([]byte{byte(c)})
		check([]byte{0x5a, byte(c), 0})
	}
	r := rand.New(rand.NewSource(1))
	for n := range 300 {
		check(someBytes(r, n))
	}
	check(someBytes(r, 100000))
}

// P1.1, P1.2: More and Join at every place where bytes can be parted.
func TestPartsMakeTheWhole(t *testing.T) {
	r := rand.New(rand.NewSource(2))
	for _, n := range []int{0, 1, 2, 3, 9, 64, 257} {
		whole := someBytes(r, n)
		want := plainSum(whole)
		for cut := range n + 1 {
			a, b := whole[:cut], whole[cut:]
			if got := More(Sum(a), b); got != want {
				t.Errorf("More at %d of %d: %08x, want %08x", cut, n, got, want)
			}
			got, why := Join(Sum(a), Sum(b), int64(len(b)))
			if got != want || why != api.OK {
				t.Errorf("Join at %d of %d: %08x %d, want %08x", cut, n, got, why, want)
			}
		}
	}
}

// P1.1, P1.2: Join of pieces whose length has many bits, high ones too.
func TestJoinOfLongPieces(t *testing.T) {
	r := rand.New(rand.NewSource(3))
	for _, n := range []int{1 << 16, 1<<16 + 1, 1<<20 - 1, 3<<19 + 5} {
		a, b := someBytes(r, 100), someBytes(r, n)
		got, why := Join(Sum(a), Sum(b), int64(n))
		if want := More(Sum(a), b); got != want || why != api.OK {
			t.Errorf("Join of %d bytes: %08x %d, want %08x", n, got, why, want)
		}
	}
}

// zeros answers the sum of n bytes 0, by doubling what is known of fewer.
func zeros(t *testing.T, n int64) uint32 {
	if n == 0 {
		return 0
	}
	half := zeros(t, n/2)
	sum, why := Join(half, half, n/2)
	if why != api.OK {
		t.Fatalf("Join of %d: %d", n/2, why)
	}
	if n%2 == 1 {
		sum = More(sum, []byte{0})
	}
	return sum
}

// P1.1: up to 2^40 bytes, in whichever pieces they are joined.
func TestJoinUpToItsBound(t *testing.T) {
	const most = int64(1) << 40
	a := Sum([]byte("ahead"))
	whole, why := Join(a, zeros(t, most), most)
	if why != api.OK {
		t.Fatalf("Join of 2^40: %d", why)
	}
	for _, first := range []int64{0, 1, 255, 1<<32 + 12345, most / 3, most - 1, most} {
		part, why := Join(a, zeros(t, first), first)
		if why != api.OK {
			t.Fatalf("Join of %d: %d", first, why)
		}
		got, why := Join(part, zeros(t, most-first), most-first)
		if got != whole || why != api.OK {
			t.Errorf("parted at %d: %08x %d, want %08x", first, got, why, whole)
		}
	}
}

// P1.1, P1: a length out of its bounds is refused, with nothing beside the error.
func TestJoinRefuses(t *testing.T) {
	for _, n := range []int64{-1, math.MinInt64, 1<<40 + 1, math.MaxInt64} {
		if got, why := Join(0x12345678, 0x9abcdef0, n); got != 0 || why != api.ErrArg {
			t.Errorf("Join of %d: %08x %d", n, got, why)
		}
	}
}

// P1.3: nothing behind bytes leaves their sum as it is.
func TestNothingBehind(t *testing.T) {
	r := rand.New(rand.NewSource(4))
	sums := []uint32{0, 1, 1 << 31, math.MaxUint32}
	for range 100 {
		sums = append(sums, r.Uint32())
	}
	for _, a := range sums {
		if got := More(a, nil); got != a {
			t.Errorf("More(%08x, nil) = %08x", a, got)
		}
		if got := More(a, []byte{}); got != a {
			t.Errorf("More(%08x, empty) = %08x", a, got)
		}
		if got, why := Join(a, 0, 0); got != a || why != api.OK {
			t.Errorf("Join(%08x, 0, 0) = %08x %d", a, got, why)
		}
	}
}

// turn turns the bits of pattern in b, from the bit start on, each byte's lowest bit first.
func turn(b []byte, start int, pattern uint32) {
	for place := range 32 {
		if pattern>>place&1 == 1 {
			b[(start+place)/8] ^= 1 << ((start + place) % 8)
		}
	}
}

// P1.4: a bit that is turned, or up to 32 in a row, turns the sum.
func TestTurnedBits(t *testing.T) {
	r := rand.New(rand.NewSource(5))
	for _, n := range []int{1, 4, 5, 33} {
		b := someBytes(r, n)
		was := Sum(b)
		for start := range 8 * n {
			for width := 1; width <= 32 && start+width <= 8*n; width++ {
				ends := uint32(1) | 1<<(width-1)
				for _, middle := range []uint32{0, math.MaxUint32, r.Uint32()} {
					pattern := ends | middle&(1<<(width-1)-1)
					turn(b, start, pattern)
					if Sum(b) == was {
						t.Errorf("%d bytes, bits %032b from %d: the sum stayed", n, pattern, start)
					}
					turn(b, start, pattern)
				}
			}
		}
	}
}

// P1.1: a slot is the sum's lowest four bits, of any text.
func TestSlot(t *testing.T) {
	seen := map[int]bool{}
	names := []string{"", "a", "ann", "bob", "_", "9", "\xff\x00", "Ünn", "a name that is far too long for an account"}
	for c := 'a'; c <= 'z'; c++ {
		names = append(names, "acc_"+string(c))
	}
	for _, name := range names {
		got := Slot(name)
		seen[got] = true
		if want := int(plainSum([]byte(name)) & 15); got != want {
			t.Errorf("Slot(%q) = %d, want %d", name, got, want)
		}
	}
	if len(seen) < 10 {
		t.Errorf("only %d slots of %d names", len(seen), len(names))
	}
}
