package cluster

import (
	"almoner/api"
	"almoner/client"
	"almoner/net"
	"almoner/node"
)

// traffic is what is on its way between machines and clients, and the clients' calls.
type traffic struct {
	letters *net.Net
	desk    *client.Desk
	come    map[int64]struct{} // the calls with a key that have come to a machine
}

func newTraffic() traffic {
	return traffic{letters: net.New(), desk: client.New(), come: map[int64]struct{}{}}
}

// call begins a call, and lets it go to a machine.
func (t *traffic) call(to int, o api.Op) {
	n := t.desk.Begin(o)
	if n < 0 {
		return
	}
	if b, why := client.Pack(client.Letter{Kind: client.Call, N: int64(n), Op: o}); why == api.OK {
		t.letters.Send(net.Client, to, b)
	}
}

// post lets what a machine answers go; where there is no room, it is lost.
func (t *traffic) post(from int, l []node.Out) {
	for _, out := range l {
		t.letters.Send(from, out.To, out.Data)
	}
}

// choose answers the number of the letter that a step's number means; of none on their way one that there is not.
func (t *traffic) choose(n int) int {
	count := t.letters.Len()
	if count == 0 {
		return 0
	}
	return (n%count + count) % count
}

// hear lets a client hear what it is told, and answers it, if it is the first answer to a call.
func (t *traffic) hear(b []byte) []api.Told {
	l, why := client.Unpack(b)
	if why != api.OK || l.Kind != client.Told || !t.desk.Hear(int(l.N), l.Reply) {
		return nil
	}
	return []api.Told{{Call: int(l.N), Reply: l.Reply}}
}

// first tells whether a letter is to be handled: of a call with a key that is on its way twice, what comes first alone. A machine that told ErrRetry of the first one might do the second one, and its client, who has heard that nothing was done, would never know.
func (t *traffic) first(l net.Letter) bool {
	if l.From != net.Client {
		return true
	}
	x, why := client.Unpack(l.Data)
	if why != api.OK || x.Kind != client.Call || x.Op.Kind > api.Transfer {
		return true
	}
	_, is := t.come[x.N]
	t.come[x.N] = struct{}{}
	return !is
}
