package tests

import (
	"slices"
	"testing"

	"loop.example/g00359/impl"
)

// What the tests of chapter 6 share: actions, results held against each other,
// and a plain cluster, by the document's words, whose nodes are lists of
// records.

func said(node int, user int, line string) impl.Action {
	c, code, at := plainCmdRead([]byte(line))
	if code != 0 {
		panic("no command: " + line[at:])
	}
	return impl.Action{Kind: impl.AcCmd, Node: node, User: user, Cmd: c}
}

func deliver(i int) impl.Action { return impl.Action{Kind: impl.AcDeliver, I: i} }

func double(i int) impl.Action { return impl.Action{Kind: impl.AcDouble, I: i} }

func lose(i int) impl.Action { return impl.Action{Kind: impl.AcDrop, I: i} }

func tick() impl.Action { return impl.Action{Kind: impl.AcTick} }

func crash(node int) impl.Action { return impl.Action{Kind: impl.AcCrash, Node: node} }

func fuse(node int, keep int) impl.Action {
	return impl.Action{Kind: impl.AcFuse, Node: node, I: keep}
}

func start(node int) impl.Action { return impl.Action{Kind: impl.AcStart, Node: node} }

func move(user int, to int) impl.Action {
	return impl.Action{Kind: impl.AcMove, Node: to, User: user}
}

func abort(user int) impl.Action { return impl.Action{Kind: impl.AcAbort, User: user} }

// times answers so many of the one action.
func times(n int, a impl.Action) []impl.Action { return slices.Repeat([]impl.Action{a}, n) }

func sameDeed(a impl.Deed, b impl.Deed) bool {
	return a.At == b.At && a.Call == b.Call && a.User == b.User && a.Node == b.Node && a.Epoch == b.Epoch &&
		sameCmd(a.Cmd, b.Cmd) && sameReply(a.Reply, b.Reply)
}

func sameCall(a impl.Call, b impl.Call) bool {
	return a.User == b.User && a.Node == b.Node && sameCmd(a.Cmd, b.Cmd) && a.From == b.From && a.To == b.To &&
		sameReply(a.Reply, b.Reply)
}

func sameResult(a impl.Result, b impl.Result) bool {
	return a.Ok == b.Ok && slices.EqualFunc(a.Deeds, b.Deeds, sameDeed) && slices.EqualFunc(a.Calls, b.Calls, sameCall) &&
		slices.EqualFunc(a.Houses, b.Houses, sameHouse) && sameBook(a.Book, b.Book) && slices.Equal(a.Up, b.Up) &&
		a.Net == b.Net && a.Rounds == b.Rounds
}

type plainMessage struct {
	kind  int
	to    int
	user  int
	call  int
	epoch int
	try   int
	reply impl.Reply
	acc   impl.Account
}

// plainNode has as house or book what its whole records make it, whether it is
// up or not: nobody asks a node that is down.
type plainNode struct {
	size  int
	up    bool
	fuse  int
	house impl.House
	book  impl.Book
}

// meeting is what a node had when a message of a kind was heard: a house the
// State of its place, the keeper 1 or 0 as the row was Moving or not; below,
// at or above (-1, 0, 1) is how the message's Try and Epoch were to its own.
type meeting struct {
	kind  int
	state int
	try   int
	epoch int
}

type plainCluster struct {
	houses int
	nodes  []plainNode
	net    []plainMessage
	now    int
	calls  []impl.Call
	deeds  []impl.Deed
	met    map[meeting]int
	lost   int
}

func newPlainCluster(houses int) *plainCluster {
	p := &plainCluster{houses: houses, met: map[meeting]int{}}
	for id := range houses {
		p.nodes = append(p.nodes, plainNode{up: true, fuse: -1, house: plainFirstHouse(id, houses)})
	}
	p.nodes = append(p.nodes, plainNode{up: true, fuse: -1, book: plainFirstBook(houses)})
	return p
}

func (p *plainCluster) rows() []impl.Row { return p.nodes[p.houses].book.Rows }

func (p *plainCluster) keeperUp() bool { return p.nodes[p.houses].up }

func (p *plainCluster) send(m plainMessage) {
	if len(p.net) >= 60 {
		p.lost++
		return
	}
	p.net = append(p.net, m)
}

func (p *plainCluster) takeOut(i int) plainMessage {
	m := p.net[i]
	p.net = slices.Concat(p.net[:i], p.net[i+1:])
	return m
}

func (p *plainCluster) do(a impl.Action) {
	p.now++
	isNode, isHouse := a.Node <= p.houses, a.Node < p.houses
	switch a.Kind {
	case 0:
		if isHouse && len(p.calls) < 300 {
			p.calls = append(p.calls, impl.Call{User: a.User, Node: a.Node, Cmd: a.Cmd, From: p.now, To: -1})
			p.send(plainMessage{kind: 0, to: a.Node, user: a.User, call: len(p.calls)})
		}
	case 1, 2, 3:
		if n := len(p.net); n > 0 {
			m := p.net[a.I%n]
			if a.Kind != 2 {
				p.takeOut(a.I % n)
			}
			if a.Kind != 3 {
				p.hear(m)
			}
		}
	case 4:
		if p.keeperUp() {
			p.tellOfAll()
		}
	case 5:
		if isNode {
			p.nodes[a.Node].up, p.nodes[a.Node].fuse = false, -1
		}
	case 6:
		if isNode && p.nodes[a.Node].up {
			p.nodes[a.Node].fuse = a.I
		}
	case 7:
		if isNode {
			p.nodes[a.Node].up = true
		}
	case 8:
		if x := p.rows()[a.User]; isHouse && p.keeperUp() && !x.Moving && x.Owner != a.Node {
			p.keeperCommits(moveRecord(a.User, a.Node))
		}
	case 9:
		if p.keeperUp() && p.rows()[a.User].Moving {
			p.keeperCommits(abortRecord(a.User))
		}
	}
}

func (p *plainCluster) keeperCommits(r impl.Record) {
	if p.commit(p.houses, r, nil) {
		p.tell(r.User)
	}
}

func (p *plainCluster) commit(at int, r impl.Record, deed *impl.Deed) bool {
	n := &p.nodes[at]
	size := len(plainRecord(nil, plainRecordBytes(r)))
	burns := n.fuse >= 0
	whole := !burns || n.fuse >= size
	n.fuse = -1
	if n.size+size > 1000000 {
		return false
	}
	if whole {
		n.size += size
		if at == p.houses {
			n.book.Rows[r.User], _ = plainRowStep(n.book.Rows[r.User], r)
		} else {
			n.house.Places[r.User], _ = plainPlaceStep(n.house.Places[r.User], r)
		}
		if deed != nil {
			p.deeds = append(p.deeds, *deed)
		}
	}
	if burns {
		n.up = false
	}
	return !burns
}

func (p *plainCluster) tellOfAll() {
	for user := range 3 {
		p.tell(user)
	}
}

func (p *plainCluster) tell(user int) {
	x := p.rows()[user]
	for id := range p.houses {
		if id != x.Owner {
			p.send(plainMessage{kind: 7, to: id, user: user, epoch: x.Epoch})
		}
	}
	p.send(plainMessage{kind: 6, to: x.Owner, user: user, epoch: x.Epoch})
	if x.Moving {
		p.send(plainMessage{kind: 2, to: x.Owner, user: user, epoch: x.Epoch, try: x.Try})
	}
	if !x.Moving && x.Try > x.Epoch {
		p.send(plainMessage{kind: 8, to: x.Owner, user: user, try: x.Try})
	}
}

func compared(a int, b int) int {
	switch {
	case a < b:
		return -1
	case a > b:
		return 1
	}
	return 0
}

func (p *plainCluster) hear(m plainMessage) {
	switch {
	case m.kind == 1:
		if p.calls[m.call-1].To == -1 {
			p.calls[m.call-1].To, p.calls[m.call-1].Reply = p.now, m.reply
		}
	case !p.nodes[m.to].up:
	case m.to == p.houses:
		p.keeperHears(m)
	case m.kind == 0:
		p.houseHearsCall(m)
	default:
		p.houseHears(m)
	}
}

func (p *plainCluster) keeperHears(m plainMessage) {
	x := p.rows()[m.user]
	was := meeting{kind: m.kind, try: compared(m.try, x.Try)}
	if x.Moving {
		was.state = 1
	}
	p.met[was]++
	if !x.Moving || x.Try != m.try {
		return
	}
	if m.kind == 3 {
		p.send(plainMessage{kind: 4, to: x.Target, user: m.user, try: m.try, acc: m.acc})
	} else {
		p.keeperCommits(cutRecord(m.user))
	}
}

func (p *plainCluster) houseHearsCall(m plainMessage) {
	at, c := p.nodes[m.to].house.Places[m.user], p.calls[m.call-1].Cmd
	p.met[meeting{kind: 0, state: at.State}]++
	away := plainMessage{kind: 1, call: m.call, reply: code(6)}
	if at.State != 1 {
		p.send(away)
		return
	}
	_, r := plainDo(at.Acc, c)
	deed := impl.Deed{At: p.now, Call: m.call, User: m.user, Node: m.to, Epoch: at.Epoch, Cmd: c, Reply: r}
	well := plainMessage{kind: 1, call: m.call, reply: r}
	switch {
	case !mayChange(c.Kind):
		p.deeds = append(p.deeds, deed)
		p.send(well)
	case slices.Contains(at.Acc.Seen, m.call):
	case len(at.Acc.Seen) == 60:
		p.send(away)
	default:
		if p.commit(m.to, cmdRecord(m.user, m.call, c), &deed) {
			p.send(well)
		}
	}
}

func (p *plainCluster) houseHears(m plainMessage) {
	at := p.nodes[m.to].house.Places[m.user]
	epoch := m.epoch
	if m.kind == 4 {
		epoch = m.try
	}
	p.met[meeting{m.kind, at.State, compared(m.try, at.Try), compared(epoch, at.Epoch)}]++
	r := bareRecord(map[int]int{2: impl.RcFreeze, 4: impl.RcInstall, 6: impl.RcGrant, 7: impl.RcDrop, 8: impl.RcThaw}[m.kind], m.user, m.try)
	if m.kind == 6 || m.kind == 7 {
		r.N = m.epoch
	}
	if m.kind == 4 {
		r.Acc = m.acc
	}
	_, applies := plainPlaceStep(at, r)
	again := false
	switch m.kind {
	case 2:
		again = at.State == 2 && at.Try == m.try && at.Epoch == m.epoch
		applies = applies && at.Epoch == m.epoch
	case 4:
		again = (at.State == 3 || at.State == 1) && at.Epoch == m.try
	}
	did := again || applies && p.commit(m.to, r, nil)
	if did && (m.kind == 2 || m.kind == 4) {
		p.send(plainMessage{kind: m.kind + 1, to: p.houses, user: m.user, try: m.try, acc: at.Acc})
	}
}

func (p *plainCluster) hearAll() {
	for n := 0; n < 2000 && len(p.net) > 0; n++ {
		p.now++
		p.hear(p.takeOut(0))
	}
}

func (p *plainCluster) quiet() bool {
	for user, x := range p.rows() {
		for id := range p.houses {
			state := p.nodes[id].house.Places[user].State
			if id == x.Owner && state != 1 || id != x.Owner && (state == 1 || state == 2) {
				return false
			}
		}
		if x.Moving {
			return false
		}
	}
	return len(p.net) == 0
}

func (p *plainCluster) settle() int {
	for i := range p.nodes {
		p.nodes[i].up, p.nodes[i].fuse = true, -1
	}
	for round := 0; round < 30; round++ {
		p.hearAll()
		if p.quiet() {
			return round
		}
		p.tellOfAll()
	}
	return 30
}

func (p *plainCluster) result(rounds int) impl.Result {
	r := impl.Result{Ok: true, Deeds: p.deeds, Calls: p.calls, Book: p.nodes[p.houses].book, Net: len(p.net), Rounds: rounds}
	for i, n := range p.nodes {
		if i < p.houses {
			r.Houses = append(r.Houses, n.house)
		}
		r.Up = append(r.Up, n.up)
	}
	return r
}

// plainRun wants what Run does not refuse.
func plainRun(houses int, script []impl.Action, settle bool) impl.Result {
	p := newPlainCluster(houses)
	for _, a := range script {
		p.do(a)
	}
	if settle {
		return p.result(p.settle())
	}
	return p.result(0)
}

// checkRun holds both ends of the script against the plain cluster's, and
// answers the one that is not settled.
func checkRun(t *testing.T, houses int, script []impl.Action) impl.Result {
	t.Helper()
	for _, settle := range []bool{true, false} {
		got, want := impl.Run(houses, script, settle), plainRun(houses, script, settle)
		if !sameResult(got, want) {
			t.Fatalf("Run(%d, %v, %v) answers\n%v, want\n%v", houses, script, settle, got, want)
		}
	}
	return impl.Run(houses, script, false)
}

// scene is a script that grows.
type scene struct {
	t      *testing.T
	houses int
	l      []impl.Action
}

func newScene(t *testing.T, houses int, l ...impl.Action) *scene {
	return &scene{t: t, houses: houses, l: l}
}

// play answers what is behind the actions that come to the script.
func (s *scene) play(l ...impl.Action) impl.Result {
	s.t.Helper()
	s.l = append(s.l, l...)
	return checkRun(s.t, s.houses, s.l)
}

// hush hears all that is in the net, the first message first.
func (s *scene) hush() impl.Result {
	s.t.Helper()
	for impl.Run(s.houses, s.l, false).Net > 0 {
		s.l = append(s.l, deliver(0))
		if len(s.l) > impl.MaxScript {
			s.t.Fatal("the net is not empty behind MaxScript actions")
		}
	}
	return s.play()
}

func (s *scene) wantPlace(why string, house int, user int, want impl.Place) {
	s.t.Helper()
	r := impl.Run(s.houses, s.l, false)
	if !r.Ok || !samePlace(r.Houses[house].Places[user], want) {
		s.t.Errorf("%s: house %d has of user %d\n%v, want\n%v", why, house, user, r.Houses[house].Places[user], want)
	}
}

func (s *scene) wantState(why string, house int, user int, state int, epoch int, try int) {
	s.t.Helper()
	p := impl.Run(s.houses, s.l, false).Houses[house].Places[user]
	if p.State != state || p.Epoch != epoch || p.Try != try {
		s.t.Errorf("%s: house %d has of user %d %v, want State %d, Epoch %d, Try %d", why, house, user, p, state, epoch, try)
	}
}

func (s *scene) wantRow(why string, user int, want impl.Row) {
	s.t.Helper()
	if x := impl.Run(s.houses, s.l, false).Book.Rows[user]; x != want {
		s.t.Errorf("%s: the row of user %d is %v, want %v", why, user, x, want)
	}
}

func (s *scene) wantNet(why string, n int) {
	s.t.Helper()
	if r := impl.Run(s.houses, s.l, false); r.Net != n {
		s.t.Errorf("%s: %d messages, want %d", why, r.Net, n)
	}
}

// wantCall holds the call with this number, from 1 on, against how it was
// answered: To -1 is not at all.
func (s *scene) wantCall(why string, call int, to int, want impl.Reply) {
	s.t.Helper()
	r := impl.Run(s.houses, s.l, false)
	if x := r.Calls[call-1]; x.To != to || !sameReply(x.Reply, want) {
		s.t.Errorf("%s: call %d: To %d, %v, want %d, %v", why, call, x.To, x.Reply, to, want)
	}
}

func (s *scene) wantDeeds(why string, calls ...int) {
	s.t.Helper()
	var got []int
	for _, d := range impl.Run(s.houses, s.l, false).Deeds {
		got = append(got, d.Call)
	}
	if !slices.Equal(got, calls) {
		s.t.Errorf("%s: deeds of the calls %v, want %v", why, got, calls)
	}
}

func away() impl.Reply { return code(impl.RpAway) }
