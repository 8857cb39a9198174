package codec

import (
	"bytes"
	"math/rand"
	"testing"

	"almoner/api"
	"almoner/crc"
)

// plainFrame is a frame as the document tells it.
func plainFrame(p []byte) []byte {
	b := Uint(nil, uint64(len(p)))
	sum := crc.Sum(p)
	for i := range 4 {
		b = append(b, byte(sum>>(8*i)))
	}
	return append(b, p...)
}

func framesOf(b []byte) []string {
	var got []string
	for p := range Frames(b) {
		got = append(got, string(p))
	}
	return got
}

func sameTexts(a, b []string) bool {
	if len(a) != len(b) {
		return false
	}
	for i := range a {
		if a[i] != b[i] {
			return false
		}
	}
	return true
}

// P2.3: Frame, up to MaxBytes.
func TestFrame(t *testing.T) {
	got, why := Frame([]byte("a"))
	if want := []byte("\x01\x30\x43\xd0\xc1a"); !bytes.Equal(got, want) || why != api.OK {
		t.Errorf("Frame(a) %x %d, want %x", got, why, want)
	}
	r := rand.New(rand.NewSource(1))
	for _, n := range []int{0, 1, 127, 128, 1000, api.MaxBytes - 1, api.MaxBytes} {
		p := someBytes(r, n)
		before := bytes.Clone(p)
		got, why := Frame(p)
		if !bytes.Equal(got, plainFrame(p)) || why != api.OK {
			t.Errorf("Frame of %d bytes: %d bytes, %d", n, len(got), why)
		}
		clear(got)
		if !bytes.Equal(p, before) {
			t.Errorf("Frame of %d bytes shares its argument", n)
		}
	}
	if got, why := Frame(nil); string(got) != "\x00\x00\x00\x00\x00" || why != api.OK {
		t.Errorf("Frame(nil) %x %d", got, why)
	}
	if got, why := Frame(make([]byte, api.MaxBytes+1)); got != nil || why != api.ErrSize {
		t.Errorf("Frame of MaxBytes + 1: %d bytes, %d", len(got), why)
	}
}

// P2.3: what Unframe refuses, and by which error where several apply.
func TestUnframeRefuses(t *testing.T) {
	a := "01 3043d0c1 61"
	for _, c := range []struct {
		what string
		b    string
		why  api.Errno
	}{
		{"nothing", "", api.ErrShort},
		{"half a number", "80", api.ErrShort},
		{"a number in no form", "80 00 00000000", api.ErrForm},
		{"a number of eleven bytes", "ff ff ff ff ff ff ff ff ff ff 01", api.ErrForm},
		{"too long", "81 80 04", api.ErrSize},
		{"far too long", "ff ff ff ff ff ff ff ff ff 01", api.ErrSize},
		{"no sum", "00", api.ErrShort},
		{"three bytes of a sum", "00 000000", api.ErrShort},
		{"no body", "01 3043d0c1", api.ErrShort},
		{"a longest body that is not there", "80 80 04 00000000", api.ErrShort},
		{"a byte more", a + " 00", api.ErrForm},
		{"a byte more, and another sum", "01 3043d0c0 61 00", api.ErrForm},
		{"a byte more behind nothing", "00 00000000 00", api.ErrForm},
		{"another sum", "01 3043d0c0 61", api.ErrSum},
		{"the sum the wrong way round", "01 c1d04330 61", api.ErrSum},
		{"another byte", "01 3043d0c1 62", api.ErrSum},
		{"a sum of nothing", "00 00000001", api.ErrSum},
	} {
		if got, why := Unframe(fromHex(t, c.b)); got != nil || why != c.why {
			t.Errorf("Unframe of %s: %x with %d, want %d", c.what, got, why, c.why)
		}
	}
	over := append(Uint(nil, api.MaxBytes+1), make([]byte, api.MaxBytes+5)...)
	if got, why := Unframe(over); got != nil || why != api.ErrSize {
		t.Errorf("Unframe of MaxBytes + 1 that are there: %d bytes with %d", len(got), why)
	}
}

// P2.5, P2.6, P2.7: frames back, as they were; cut, longer or turned ones refused.
func TestFramesThereAndBack(t *testing.T) {
	r := rand.New(rand.NewSource(2))
	for _, n := range []int{0, 1, 2, 31, 127, 128, 300} {
		p := someBytes(r, n)
		b, _ := Frame(p)
		got, why := Unframe(b)
		if !bytes.Equal(got, p) || why != api.OK {
			t.Fatalf("Unframe of %d bytes: %x with %d", n, got, why)
		}
		clear(got)
		if again, why := Unframe(b); !bytes.Equal(again, p) || why != api.OK {
			t.Fatalf("Unframe of %d bytes shares its argument", n)
		}
		for cut := range len(b) {
			if got, why := Unframe(b[:cut]); got != nil || why != api.ErrShort {
				t.Errorf("%d of %d bytes: %x with %d", cut, len(b), got, why)
			}
		}
		for c := range 256 {
			if got, why := Unframe(append(bytes.Clone(b), byte(c))); got != nil || why != api.ErrForm {
				t.Errorf("a byte %02x more behind %d: %x with %d", c, len(b), got, why)
			}
		}
		for bit := range 8 * len(b) {
			b[bit/8] ^= 1 << (bit % 8)
			if got, why := Unframe(b); got != nil || why == api.OK {
				t.Errorf("bit %d of %d bytes turned: %x with %d", bit, len(b), got, why)
			}
			b[bit/8] ^= 1 << (bit % 8)
		}
	}
	full := someBytes(r, api.MaxBytes)
	b, _ := Frame(full)
	if got, why := Unframe(b); !bytes.Equal(got, full) || why != api.OK {
		t.Errorf("Unframe of MaxBytes: %d bytes with %d", len(got), why)
	}
}

// P2.6: whatever Unframe takes, Frame writes.
func FuzzUnframe(f *testing.F) {
	f.Add([]byte{})
	f.Add([]byte{0, 0, 0, 0, 0})
	f.Add([]byte("\x01\x30\x43\xd0\xc1a"))
	f.Add([]byte("\x81\x00\x30\x43\xd0\xc1a"))
	f.Fuzz(func(t *testing.T, b []byte) {
		p, why := Unframe(b)
		if why != api.OK {
			if p != nil {
				t.Fatalf("bytes beside the error %d", why)
			}
			return
		}
		if again, why := Frame(p); !bytes.Equal(again, b) || why != api.OK {
			t.Fatalf("%x is written again as %x, %d", b, again, why)
		}
	})
}

// P2.3: Frames goes up to the first that is not right, or not whole.
func TestFrames(t *testing.T) {
	one, two, three := plainFrame([]byte("one")), plainFrame(nil), plainFrame([]byte("three"))
	all := bytes.Join([][]byte{one, two, three}, nil)
	for n := range len(all) + 1 {
		var want []string
		if n >= len(one) {
			want = append(want, "one")
		}
		if n >= len(one)+len(two) {
			want = append(want, "")
		}
		if n >= len(all) {
			want = append(want, "three")
		}
		if got := framesOf(all[:n]); !sameTexts(got, want) {
			t.Errorf("%d of %d bytes: %q, want %q", n, len(all), got, want)
		}
	}
	for _, c := range []struct {
		what string
		tail []byte
	}{
		{"another sum", append([]byte{1, 0, 0, 0, 0, 'x'}, three...)},
		{"a number in no form", append([]byte{0x80, 0}, three...)},
		{"too long", append(Uint(nil, api.MaxBytes+1), make([]byte, api.MaxBytes+10)...)},
	} {
		b := append(bytes.Clone(all), c.tail...)
		if got := framesOf(b); !sameTexts(got, []string{"one", "", "three"}) {
			t.Errorf("%s: %q", c.what, got)
		}
	}
	if got := framesOf(nil); len(got) != 0 {
		t.Errorf("frames of nothing: %q", got)
	}
}

// P2.3: frames are those of the call, may be gone through twice, and left early; none shares memory.
func TestFramesAreKept(t *testing.T) {
	b := append(plainFrame([]byte("one")), plainFrame([]byte("two"))...)
	seq := Frames(b)
	clear(b)
	for range 2 {
		var got []string
		for p := range seq {
			got = append(got, string(p))
			clear(p)
			_ = append(p, "zzzzzzzzzzzz"...)
		}
		if !sameTexts(got, []string{"one", "two"}) {
			t.Errorf("frames %q", got)
		}
	}
	n := 0
	for range seq {
		n++
		break
	}
	if n != 1 {
		t.Errorf("left early: %d", n)
	}
	if !bytes.Equal(b, make([]byte, len(b))) {
		t.Errorf("Frames wrote into its argument")
	}
}
