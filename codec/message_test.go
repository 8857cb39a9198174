package codec

import (
	"bytes"
	"math"
	"math/rand"
	"testing"

	"almoner/api"
)

func sameMsg(a, b api.Msg) bool {
	if len(a.Entries) != len(b.Entries) || !bytes.Equal(a.Data, b.Data) {
		return false
	}
	for i := range a.Entries {
		if a.Entries[i].Term != b.Entries[i].Term || !bytes.Equal(a.Entries[i].Cmd, b.Entries[i].Cmd) {
			return false
		}
	}
	return a.Kind == b.Kind && a.Group == b.Group && a.From == b.From && a.To == b.To &&
		a.Term == b.Term && a.Index == b.Index && a.LogTerm == b.LogTerm && a.Commit == b.Commit && a.Ok == b.Ok
}

// isZero tells whether a message is the zero one, its lists nil or empty.
func isZero(m api.Msg) bool {
	return sameMsg(m, api.Msg{})
}

func someMsg(r *rand.Rand) api.Msg {
	m := api.Msg{
		Kind: 1 + r.Intn(6), Group: r.Intn(api.MaxShards + 1), From: r.Intn(api.MaxNodes), To: r.Intn(api.MaxNodes),
		Term: someInt(r), Index: someInt(r), LogTerm: someInt(r), Commit: someInt(r), Ok: r.Intn(2) == 1,
		Data: someBytes(r, r.Intn(5)),
	}
	for range r.Intn(4) {
		m.Entries = append(m.Entries, api.Entry{Term: someInt(r), Cmd: someBytes(r, r.Intn(5))})
	}
	return m
}

// mustMsg answers the bytes of a message that can be written.
func mustMsg(t *testing.T, m api.Msg) []byte {
	t.Helper()
	b, why := Msg(m)
	if why != api.OK {
		t.Fatalf("Msg: %d", why)
	}
	return b
}

// P2.4: a message's form.
func TestMsgForm(t *testing.T) {
	m := api.Msg{
		Kind: api.Add, Group: 1, From: 2, To: 3, Term: 4, Index: -1, LogTerm: 300, Commit: 5, Ok: true,
		Entries: []api.Entry{{Term: 7, Cmd: []byte("xy")}, {Term: -1}},
		Data:    []byte("d"),
	}
	if got, want := mustMsg(t, m), fromHex(t, "06 02 04 06 08 01 d804 0a 01 02 0e 02 7879 01 00 01 64"); !bytes.Equal(got, want) {
		t.Errorf("Msg %x, want %x", got, want)
	}
	if got := mustMsg(t, api.Msg{}); !bytes.Equal(got, make([]byte, 11)) {
		t.Errorf("Msg of the zero one %x", got)
	}
}

// P2.5, P2.6, P2.7: messages back, as they were; cut or longer ones refused.
func TestMsgThereAndBack(t *testing.T) {
	r := rand.New(rand.NewSource(1))
	for range 300 {
		m := someMsg(r)
		b := mustMsg(t, m)
		got, why := Unmsg(b)
		if !sameMsg(got, m) || why != api.OK {
			t.Fatalf("Unmsg %v with %d, want %v", got, why, m)
		}
		if again := mustMsg(t, got); !bytes.Equal(again, b) {
			t.Fatalf("written again: %x, want %x", again, b)
		}
		for cut := range len(b) {
			if got, why := Unmsg(b[:cut]); !isZero(got) || why != api.ErrShort {
				t.Errorf("%d of %d bytes: %v with %d", cut, len(b), got, why)
			}
		}
		for _, c := range []byte{0, 1, 0x80, 0xff} {
			if got, why := Unmsg(append(bytes.Clone(b), c)); !isZero(got) || why != api.ErrForm {
				t.Errorf("a byte %02x more: %v with %d", c, got, why)
			}
		}
	}
}

// P2.6, P7: messages with bytes that were changed are refused, or are just those bytes.
func TestChangedMsg(t *testing.T) {
	r := rand.New(rand.NewSource(2))
	taken := 0
	for range 20000 {
		b := mustMsg(t, someMsg(r))
		for range 1 + r.Intn(3) {
			b[r.Intn(len(b))] = byte(r.Intn(256))
		}
		m, why := Unmsg(b)
		if why != api.OK {
			if !isZero(m) {
				t.Fatalf("a message beside the error %d: %v", why, m)
			}
			continue
		}
		taken++
		if again := mustMsg(t, m); !bytes.Equal(again, b) {
			t.Fatalf("written again: %x, want %x", again, b)
		}
	}
	if taken == 0 {
		t.Error("no changed message was taken: the test asks nothing")
	}
}

// P2.6: whatever Unmsg takes, Msg writes.
func FuzzUnmsg(f *testing.F) {
	r := rand.New(rand.NewSource(3))
	for range 5 {
		b, _ := Msg(someMsg(r))
		f.Add(b)
	}
	f.Fuzz(func(t *testing.T, b []byte) {
		m, why := Unmsg(b)
		if why != api.OK {
			return
		}
		if again, why := Msg(m); !bytes.Equal(again, b) || why != api.OK {
			t.Fatalf("%x is written again as %x, %d", b, again, why)
		}
	})
}

// P2.4: Unmsg refuses kinds, groups and machines that can not be; Msg writes them all the same.
func TestUnmsgBounds(t *testing.T) {
	right := api.Msg{Kind: 1, Group: 0, From: 0, To: 0}
	for _, c := range []struct {
		field       func(m *api.Msg) *int
		least, most int
	}{
		{func(m *api.Msg) *int { return &m.Kind }, 1, 6},
		{func(m *api.Msg) *int { return &m.Group }, 0, 3},
		{func(m *api.Msg) *int { return &m.From }, 0, 4},
		{func(m *api.Msg) *int { return &m.To }, 0, 4},
	} {
		for _, n := range []int{math.MinInt, -1, 0, 1, 2, 3, 4, 5, 6, 7, 1 << 32, 1<<32 + 1, math.MaxInt} {
			m := right
			*c.field(&m) = n
			got, why := Unmsg(mustMsg(t, m))
			if n >= c.least && n <= c.most {
				if !sameMsg(got, m) || why != api.OK {
					t.Errorf("%v: %v with %d", m, got, why)
				}
			} else if !isZero(got) || why != api.ErrArg {
				t.Errorf("%v: %v with %d, want ErrArg", m, got, why)
			}
		}
	}
}

// P2.4: the error that is named first is told.
func TestUnmsgErrors(t *testing.T) {
	wrong := mustMsg(t, api.Msg{Kind: 9})
	entries := func(n uint64, tail ...byte) []byte {
		return append(Uint(append([]byte{2}, make([]byte, 8)...), n), tail...)
	}
	huge := entries(1, 0)
	huge = append(huge, Bytes(nil, make([]byte, api.MaxBytes+1))...)
	for _, c := range []struct {
		what string
		b    []byte
		why  api.Errno
	}{
		{"nothing", nil, api.ErrShort},
		{"a wrong kind and a byte more", append(bytes.Clone(wrong), 0), api.ErrForm},
		{"a wrong kind, cut", wrong[:len(wrong)-1], api.ErrShort},
		{"a wrong kind", wrong, api.ErrArg},
		{"a truth that is none", []byte{2, 0, 0, 0, 0, 0, 0, 0, 2}, api.ErrForm},
		{"a number in no form, and cut", []byte{2, 0x80, 0}, api.ErrForm},
		{"entries that are not there", entries(3, 0, 0), api.ErrShort},
		{"too many entries", entries(api.MaxLog+1, make([]byte, 3*api.MaxLog)...), api.ErrSize},
		{"too many entries, not there", entries(api.MaxLog + 1), api.ErrSize},
		{"a command that is too long", huge, api.ErrSize},
		{"a longest message of nothing", make([]byte, 16*api.MaxBytes), api.ErrForm},
		{"too long a message", make([]byte, 16*api.MaxBytes+1), api.ErrSize},
	} {
		if got, why := Unmsg(c.b); !isZero(got) || why != c.why {
			t.Errorf("%s: %v with %d, want %d", c.what, got, why, c.why)
		}
	}
}

// longMsg answers a message with so many bytes in all.
func longMsg(n int) api.Msg {
	m := api.Msg{Kind: 1}
	for range 15 {
		m.Entries = append(m.Entries, api.Entry{Cmd: make([]byte, api.MaxBytes)})
	}
	// Ahead of the entries stand 10 bytes; an entry's term has 1 byte, its length 3, and so has that of Data.
	m.Data = make([]byte, n-(10+15*(1+3+api.MaxBytes)+3))
	return m
}

// P2.4: Msg at its bounds, and one beyond each.
func TestMsgBounds(t *testing.T) {
	whole := longMsg(16 * api.MaxBytes)
	b, why := Msg(whole)
	if len(b) != 16*api.MaxBytes || why != api.OK {
		t.Fatalf("a longest message: %d bytes with %d", len(b), why)
	}
	if got, why := Unmsg(b); !sameMsg(got, whole) || why != api.OK {
		t.Errorf("a longest message back: %d", why)
	}
	most := api.Msg{Kind: 1, Entries: make([]api.Entry, api.MaxLog), Data: make([]byte, api.MaxBytes)}
	most.Entries[api.MaxLog-1].Cmd = make([]byte, api.MaxBytes)
	b, why = Msg(most)
	if why != api.OK {
		t.Fatalf("the most entries: %d", why)
	}
	if got, why := Unmsg(b); !sameMsg(got, most) || why != api.OK {
		t.Errorf("the most entries back: %d", why)
	}
	full := make([]byte, api.MaxBytes)
	crowd := api.Msg{Entries: make([]api.Entry, api.MaxLog)}
	for i := range crowd.Entries {
		crowd.Entries[i].Cmd = full
	}
	for what, m := range map[string]api.Msg{
		"a byte more in all":         longMsg(16*api.MaxBytes + 1),
		"an entry more":              {Entries: make([]api.Entry, api.MaxLog+1)},
		"a byte more of a command":   {Entries: []api.Entry{{Cmd: make([]byte, api.MaxBytes+1)}}},
		"a byte more of Data":        {Data: make([]byte, api.MaxBytes+1)},
		"each right, all too many":   crowd,
		"the last command too long":  {Entries: []api.Entry{{}, {}, {Cmd: make([]byte, api.MaxBytes+1)}}},
		"too many by Data, far over": {Entries: crowd.Entries[:16], Data: full},
	} {
		if b, why := Msg(m); b != nil || why != api.ErrSize {
			t.Errorf("%s: %d bytes with %d", what, len(b), why)
		}
	}
}

// P2.4: neither Msg nor Unmsg shares memory with what it was given, nor two lists of an answer.
func TestMsgSharesNothing(t *testing.T) {
	m := api.Msg{Kind: 1, Entries: []api.Entry{{Cmd: []byte("ab")}, {Cmd: []byte("cd")}}, Data: []byte("ef")}
	b := mustMsg(t, m)
	before := bytes.Clone(b)
	got, _ := Unmsg(b)
	for _, p := range [][]byte{got.Entries[0].Cmd, got.Entries[1].Cmd, got.Data} {
		_ = append(p, "zzzzzzzz"...)
	}
	if !sameMsg(got, m) || !bytes.Equal(b, before) {
		t.Errorf("an answer that was appended to is seen: %v", got)
	}
	clear(got.Entries[0].Cmd)
	if string(got.Entries[1].Cmd) != "cd" || string(got.Data) != "ef" || !bytes.Equal(b, before) {
		t.Errorf("lists of an answer share memory: %v", got)
	}
	clear(b)
	if string(m.Data) != "ef" || string(m.Entries[0].Cmd) != "ab" || string(got.Data) != "ef" {
		t.Errorf("bytes share memory with a message: %v", m)
	}
}
