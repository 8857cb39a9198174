package net

import (
	"bytes"
	"fmt"
	"math"
	"math/rand"
	"slices"
	"strings"
	"testing"

	"almoner/api"
)

func mustSend(t *testing.T, n *Net, from, to int, data string) {
	t.Helper()
	if why := n.Send(from, to, []byte(data)); why != api.OK {
		t.Fatalf("Send(%d, %d, %q): %d", from, to, data, why)
	}
}

// text is a letter as a text.
func text(l Letter) string {
	return fmt.Sprintf("%d>%d:%s", l.From, l.To, l.Data)
}

// told is all letters, in order, as a text.
func told(n *Net) string {
	var l []string
	for x := range n.All() {
		l = append(l, text(x))
	}
	return strings.Join(l, " ")
}

// wantNet holds all that a net tells against the letters that are to be on their way.
func wantNet(t *testing.T, n *Net, want ...string) {
	t.Helper()
	if got := told(n); got != strings.Join(want, " ") || n.Len() != len(want) {
		t.Fatalf("%d are on their way: %s; want %v", n.Len(), got, want)
	}
	to := map[int]int{}
	for k, w := range want {
		l, why := n.Look(k)
		if text(l) != w || why != api.OK {
			t.Fatalf("Look(%d): %s, %d; want %s", k, text(l), why, w)
		}
		to[l.To]++
	}
	for who := -3; who <= api.MaxNodes+1; who++ {
		if n.To(who) != to[who] {
			t.Fatalf("To(%d): %d, want %d", who, n.To(who), to[who])
		}
	}
	for _, k := range []int{-1, len(want), math.MinInt, math.MaxInt} {
		wantErrors(t, n, k, api.ErrArg)
	}
}

// wantErrors asks that all calls of a letter answer an error, and no letter.
func wantErrors(t *testing.T, n *Net, k int, want api.Errno) {
	t.Helper()
	looked, look := n.Look(k)
	taken, take := n.Take(k)
	for name, why := range map[string]api.Errno{"Look": look, "Take": take, "Drop": n.Drop(k), "Double": n.Double(k)} {
		if why != want {
			t.Fatalf("%s(%d): %d, want %d", name, k, why, want)
		}
	}
	if text(looked) != "0>0:" || text(taken) != "0>0:" || looked.Data != nil || taken.Data != nil {
		t.Fatalf("beside an error: %v, %v", looked, taken)
	}
}

// P8.1, P1: calls of nil; a net that was not made by New has nothing on its way.
func TestNil(t *testing.T) {
	var n *Net
	for _, k := range []int{-1, 0, 1} {
		wantErrors(t, n, k, api.ErrNil)
	}
	for _, to := range []int{-2, 0, 9} {
		if why := n.Send(0, to, nil); why != api.ErrNil {
			t.Errorf("Send: %d", why)
		}
		if n.To(to) != 0 {
			t.Error("To")
		}
	}
	if n.Len() != 0 || told(n) != "" {
		t.Errorf("Len %d, All %s", n.Len(), told(n))
	}
	n = &Net{}
	wantNet(t, n)
	mustSend(t, n, 0, 1, "a")
	wantNet(t, n, "0>1:a")
}

// P8.2: the chapter's example.
func TestExample(t *testing.T) {
	n := New()
	wantNet(t, n)
	mustSend(t, n, 0, 1, "a")
	mustSend(t, n, 1, 0, "b")
	if why := n.Double(0); why != api.OK {
		t.Errorf("Double: %d", why)
	}
	if l, why := n.Take(0); text(l) != "0>1:a" || why != api.OK {
		t.Errorf("Take: %v, %d", l, why)
	}
	wantNet(t, n, "1>0:b", "0>1:a")
}

// P8.1, P1: who may send to whom; ErrArg ahead of ErrSize, and that ahead of ErrFull.
func TestErrorsOfSend(t *testing.T) {
	n := New()
	most, more := make([]byte, 16*65536), make([]byte, 16*65536+1)
	var want []string
	for from := -3; from <= 7; from++ {
		for to := -3; to <= 7; to++ {
			is := from >= -1 && from <= 4 && to >= -1 && to <= 4
			if why := n.Send(from, to, nil); (why == api.OK) != is || !is && why != api.ErrArg {
				t.Errorf("Send(%d, %d): %d", from, to, why)
			}
			wrong := api.ErrSize
			if !is {
				wrong = api.ErrArg
			} else {
				want = append(want, fmt.Sprintf("%d>%d:", from, to))
			}
			if why := n.Send(from, to, more); why != wrong {
				t.Errorf("Send(%d, %d) of too much: %d, want %d", from, to, why, wrong)
			}
		}
	}
	for _, who := range []int{math.MinInt, math.MaxInt} {
		if n.Send(who, 0, nil) != api.ErrArg || n.Send(0, who, nil) != api.ErrArg {
			t.Errorf("Send of %d", who)
		}
	}
	wantNet(t, n, want...)
	n = New()
	if why := n.Send(Client, 4, most); why != api.OK {
		t.Errorf("Send of %d bytes: %d", len(most), why)
	}
	if l, why := n.Take(0); why != api.OK || !bytes.Equal(l.Data, most) || l.From != -1 || l.To != 4 {
		t.Errorf("Take: %d bytes from %d to %d, %d", len(l.Data), l.From, l.To, why)
	}
}

// P8.1, P8.2: at most 10000 are on their way; with one less there is room for one more.
func TestFull(t *testing.T) {
	n := New()
	var want []string
	for i := range 10000 {
		mustSend(t, n, i%5, i%6-1, fmt.Sprint(i))
		want = append(want, fmt.Sprintf("%d>%d:%d", i%5, i%6-1, i))
	}
	more := make([]byte, 16*65536+1)
	for range 2 {
		if n.Send(0, 0, nil) != api.ErrFull || n.Double(0) != api.ErrFull || n.Double(9999) != api.ErrFull {
			t.Fatal("one more is on its way")
		}
		if n.Send(5, 0, more) != api.ErrArg || n.Send(0, 0, more) != api.ErrSize || n.Double(10000) != api.ErrArg {
			t.Fatal("the errors ahead of ErrFull")
		}
		wantNet(t, n, want...)
		if why := n.Drop(5000); why != api.OK {
			t.Fatalf("Drop: %d", why)
		}
		want = slices.Delete(want, 5000, 5001)
		if why := n.Double(17); why != api.OK {
			t.Fatalf("Double: %d", why)
		}
		want = append(want, want[17])
	}
	for len(want) > 0 {
		k := (len(want) * 7) % len(want)
		l, why := n.Take(k)
		if text(l) != want[k] || why != api.OK {
			t.Fatalf("Take(%d): %v, %d; want %s", k, l, why, want[k])
		}
		want = slices.Delete(want, k, k+1)
	}
	wantNet(t, n)
}

// P8.2: those behind a letter that is taken or lost come one place ahead; a double is the last one.
func TestPlaces(t *testing.T) {
	n := New()
	for i, data := range []string{"a", "b", "c", "d", "e"} {
		mustSend(t, n, 0, i%2, data)
	}
	wantNet(t, n, "0>0:a", "0>1:b", "0>0:c", "0>1:d", "0>0:e")
	if l, why := n.Take(2); text(l) != "0>0:c" || why != api.OK {
		t.Errorf("Take: %v, %d", l, why)
	}
	wantNet(t, n, "0>0:a", "0>1:b", "0>1:d", "0>0:e")
	if why := n.Drop(1); why != api.OK {
		t.Errorf("Drop: %d", why)
	}
	wantNet(t, n, "0>0:a", "0>1:d", "0>0:e")
	if why := n.Double(1); why != api.OK {
		t.Errorf("Double: %d", why)
	}
	mustSend(t, n, 2, 1, "f")
	wantNet(t, n, "0>0:a", "0>1:d", "0>0:e", "0>1:d", "2>1:f")
	for _, want := range []string{"2>1:f", "0>1:d", "0>0:e", "0>1:d", "0>0:a"} {
		if l, why := n.Take(n.Len() - 1); text(l) != want || why != api.OK {
			t.Errorf("Take of the last one: %v, %d; want %s", l, why, want)
		}
	}
	wantNet(t, n)
}

// P8.2: All goes through what was on its way when it was called, as often as one likes, and up to where one likes.
func TestAllAsItWas(t *testing.T) {
	n := New()
	for i, data := range []string{"a", "b", "c"} {
		mustSend(t, n, i, 4-i, data)
	}
	all := n.All()
	n.Take(0)
	n.Drop(1)
	mustSend(t, n, 0, 4, "d")
	for range 2 {
		got := ""
		for l := range all {
			got += text(l) + " "
			l.Data[0] = 'x'
			_ = append(l.Data, "more"...)
			n.Double(0)
		}
		if got != "0>4:a 1>3:b 2>2:c " {
			t.Errorf("All: %s", got)
		}
	}
	count := 0
	for range all {
		if count++; count == 2 {
			break
		}
	}
	if count != 2 || n.Len() != 8 {
		t.Errorf("%d were gone through, Len %d", count, n.Len())
	}
}

// P8.3, P1 (rules 4, 5): a letter arrives as it was sent, whatever is written into what was handed in or was answered; so does its double.
func TestMemory(t *testing.T) {
	n := New()
	b := []byte("abc")
	for range 2 {
		if why := n.Send(0, 1, b[:2]); why != api.OK {
			t.Fatalf("Send: %d", why)
		}
	}
	if string(b) != "abc" {
		t.Error("Send changes what is handed in")
	}
	copy(b, "xyz")
	n.Double(0)
	for range 2 {
		for k := range 3 {
			l, _ := n.Look(k)
			copy(l.Data, "xx")
			_ = append(l.Data, "more"...)
		}
		for l := range n.All() {
			copy(l.Data, "yy")
			_ = append(l.Data, "more"...)
		}
	}
	wantNet(t, n, "0>1:ab", "0>1:ab", "0>1:ab")
	for range 3 {
		l, _ := n.Take(0)
		if text(l) != "0>1:ab" {
			t.Errorf("Take: %v", l)
		}
		copy(l.Data, "zz")
		_ = append(l.Data, "more"...)
	}
}

// P8.1-P8.3: scripts, held against a plain list; each letter that arrives was sent, and arrives once, and once more for each double.
func TestScripts(t *testing.T) {
	for seed := range int64(40) {
		r := rand.New(rand.NewSource(seed))
		n := New()
		var want []string
		left := map[string]int{}
		grows := 3 + r.Intn(4)
		for i := range 600 {
			k := r.Intn(len(want)+2) - 1
			is := k >= 0 && k < len(want)
			why := api.OK
			switch x := r.Intn(10); {
			case x < grows:
				from, to := r.Intn(6)-1, r.Intn(6)-1
				mustSend(t, n, from, to, fmt.Sprint(i))
				want = append(want, fmt.Sprintf("%d>%d:%d", from, to, i))
				left[want[len(want)-1]]++
				is = true
			case x == 7:
				if why = n.Double(k); is {
					want = append(want, want[k])
					left[want[k]]++
				}
			case x == 8:
				if why = n.Drop(k); is {
					left[want[k]]--
					want = slices.Delete(want, k, k+1)
				}
			default:
				var l Letter
				if l, why = n.Take(k); is {
					if text(l) != want[k] {
						t.Fatalf("Take(%d): %v, want %s", k, l, want[k])
					}
					left[text(l)]--
					want = slices.Delete(want, k, k+1)
				}
			}
			if is != (why == api.OK) || !is && why != api.ErrArg {
				t.Fatalf("of the letter %d of %d: %d", k, len(want), why)
			}
			if i%7 == 0 {
				wantNet(t, n, want...)
			}
		}
		for n.Len() > 0 {
			l, _ := n.Take(r.Intn(n.Len()))
			left[text(l)]--
		}
		for l, count := range left {
			if count != 0 {
				t.Fatalf("%s arrived %d times too few", l, count)
			}
		}
	}
}
