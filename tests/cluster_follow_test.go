package tests

import (
	"math"
	"slices"
	"testing"

	"loop.example/g00359/impl"
)

// Follow and Answered: what promise 9 is asked by.

func checkFollow(t *testing.T, why string, l []impl.Deed, want []impl.Account, wantAt int) {
	t.Helper()
	got, at := impl.Follow(l)
	if at != wantAt || len(got) != impl.MaxUsers || !slices.EqualFunc(got, want, sameAccount) {
		t.Errorf("%s: Follow answers\n%v, %d, want\n%v, %d", why, got, at, want, wantAt)
	}
}

func noAccounts() []impl.Account { return make([]impl.Account, impl.MaxUsers) }

// followed are the accounts behind deeds that follow.
func followed(l []impl.Deed) []impl.Account {
	accounts := noAccounts()
	for _, d := range l {
		accounts[d.User], _ = plainDo(accounts[d.User], d.Cmd)
	}
	return accounts
}

// someDeeds are deeds of all users whose replies have all that replies have;
// what Follow is not asked about is odd in them.
func someDeeds() []impl.Deed {
	accounts := noAccounts()
	var l []impl.Deed
	for i, line := range []string{
		"CREATE in", "CREATE in", "CREATE out", `APPEND in (SD) "one"`, `APPEND in (S) "two"`, "FETCH in 1", "CHANGES in 0", "LIST", "STATUS in",
		"COPY in 2 out", "EXPUNGE in", "CHANGES in 1", "STORE in 2 WITH (F) SINCE 1", "STORE out 1 IS ()", "FETCH in 1", "DELETE out", "LIST", "CHANGES in 0",
	} {
		for user := range impl.MaxUsers {
			c := said(0, 0, line).Cmd
			var r impl.Reply
			accounts[user], r = plainDo(accounts[user], c)
			l = append(l, impl.Deed{At: -i, Call: 7, User: user, Node: -3 * i, Epoch: 5 - i, Cmd: c, Reply: r})
		}
	}
	return l
}

func TestFollowOfNothing(t *testing.T) {
	checkFollow(t, "nil", nil, noAccounts(), -1)
	checkFollow(t, "an empty list", []impl.Deed{}, noAccounts(), -1)
}

func TestFollowOfDeeds(t *testing.T) {
	l := someDeeds()
	for n := range len(l) + 1 {
		checkFollow(t, "deeds that follow", l[:n], followed(l[:n]), -1)
	}
	// A deed that can change nothing may be there as often as one likes.
	var twice []impl.Deed
	for _, d := range l {
		twice = append(twice, d)
		if !mayChange(d.Cmd.Kind) {
			twice = append(twice, d, d)
		}
	}
	checkFollow(t, "twice", twice, followed(l), -1)
}

func TestFollowOfUsersThatThereAreNot(t *testing.T) {
	l := someDeeds()
	for _, user := range []int{math.MinInt, -1, impl.MaxUsers, impl.MaxUsers + 1, math.MaxInt} {
		for _, at := range []int{0, 1, len(l) / 2, len(l) - 1, len(l)} {
			bad := slices.Insert(slices.Clone(l), at, impl.Deed{User: user, Cmd: impl.Cmd{Kind: impl.CmList}})
			checkFollow(t, "no such user", bad, followed(l[:at]), at)
		}
	}
}

func TestFollowOfCommandsThatMayNotBe(t *testing.T) {
	l := someDeeds()
	for _, c := range append(partCmds(), impl.Cmd{Kind: impl.CmList + 1}, createCmd("inboxes")) {
		if plainCmdOk(c) {
			continue
		}
		for _, r := range []impl.Reply{{}, code(impl.RpBad), code(impl.RpNone)} {
			for _, at := range []int{0, 7, len(l)} {
				bad := slices.Insert(slices.Clone(l), at, impl.Deed{User: 1, Cmd: c, Reply: r})
				checkFollow(t, "not CmdOk", bad, followed(l[:at]), at)
			}
		}
	}
}

// otherReplies are replies that differ from this one in one field each.
func otherReplies(r impl.Reply) []impl.Reply {
	var l []impl.Reply
	add := func(change func(*impl.Reply)) {
		x := r
		x.Box = clonedBox(r.Box)
		x.Names = slices.Clone(r.Names)
		change(&x)
		l = append(l, x)
	}
	for _, n := range []int{-1, 0, 1, 2, 3, 4, 5, 6, 7} {
		if n != r.Code {
			add(func(x *impl.Reply) { x.Code = n })
		}
	}
	add(func(x *impl.Reply) { x.Num++ })
	add(func(x *impl.Reply) { x.Num-- })
	add(func(x *impl.Reply) { x.Names = append(x.Names, []byte("z")) })
	add(func(x *impl.Reply) { x.Names = append(x.Names, nil) })
	add(func(x *impl.Reply) { x.Box.Name = append(x.Box.Name, 'x') })
	add(func(x *impl.Reply) { x.Box.Valid++ })
	add(func(x *impl.Reply) { x.Box.Next++ })
	add(func(x *impl.Reply) { x.Box.Seq++ })
	add(func(x *impl.Reply) { x.Box.Lost++ })
	add(func(x *impl.Reply) { x.Box.Mails = append(x.Box.Mails, impl.Mail{}) })
	add(func(x *impl.Reply) { x.Box.Gones = append(x.Box.Gones, impl.Gone{}) })
	for i := range r.Names {
		add(func(x *impl.Reply) { x.Names[i] = []byte("zz") })
		add(func(x *impl.Reply) { x.Names = slices.Delete(x.Names, i, i+1) })
	}
	for i := range r.Box.Mails {
		add(func(x *impl.Reply) { x.Box.Mails[i].Uid++ })
		add(func(x *impl.Reply) { x.Box.Mails[i].Flags++ })
		add(func(x *impl.Reply) { x.Box.Mails[i].Seq++ })
		add(func(x *impl.Reply) { x.Box.Mails[i].Text = append(x.Box.Mails[i].Text, 'x') })
		add(func(x *impl.Reply) { x.Box.Mails = slices.Delete(x.Box.Mails, i, i+1) })
	}
	for i := range r.Box.Gones {
		add(func(x *impl.Reply) { x.Box.Gones[i].Uid++ })
		add(func(x *impl.Reply) { x.Box.Gones[i].Seq++ })
		add(func(x *impl.Reply) { x.Box.Gones = slices.Delete(x.Box.Gones, i, i+1) })
	}
	return l
}

func TestFollowOfOtherReplies(t *testing.T) {
	l := someDeeds()
	for at := range l {
		for _, r := range otherReplies(l[at].Reply) {
			bad := slices.Clone(l)
			bad[at].Reply = r
			checkFollow(t, "another reply", bad, followed(l[:at]), at)
		}
	}
}

// The first of several that do not follow counts.
func TestFollowTellsTheFirstOne(t *testing.T) {
	l := someDeeds()
	for at := range l {
		bad := slices.Clone(l)
		for i := at; i < len(bad); i++ {
			bad[i].Reply.Num += 100
		}
		checkFollow(t, "all from one on", bad, followed(l[:at]), at)
	}
	// Without its first deed the first user has no box that a second one of the
	// name could meet.
	checkFollow(t, "without the first deed", l[1:], followed(l[1:3]), 2)
}

// An empty list and nil are the same value in a reply, too.
func TestFollowOfEmptyLists(t *testing.T) {
	l := someDeeds()
	for i := range l {
		r := &l[i].Reply
		if r.Names == nil {
			r.Names = [][]byte{}
		}
		if r.Box.Name == nil {
			r.Box.Name = []byte{}
		}
		if r.Box.Mails == nil {
			r.Box.Mails = []impl.Mail{}
		}
		if r.Box.Gones == nil {
			r.Box.Gones = []impl.Gone{}
		}
	}
	checkFollow(t, "empty lists", l, followed(l), -1)
}

// asked is what Answered is asked about.
type asked struct {
	calls []impl.Call
	deeds []impl.Deed
}

func (x asked) clone() asked {
	return asked{slices.Clone(x.calls), slices.Clone(x.deeds)}
}

// goodAsked has a call that may change something, one that can change nothing
// and was done three times, one that was sent away, one that was not answered
// though it was done, one that was not heard, and one of another user.
func goodAsked() asked {
	list := impl.Cmd{Kind: impl.CmList}
	names := impl.Reply{Names: [][]byte{[]byte("in")}}
	return asked{
		calls: []impl.Call{
			{User: 0, Node: 1, Cmd: createCmd("in"), From: 3, To: 8, Reply: num(1)},
			{User: 0, Node: 1, Cmd: list, From: 4, To: 11, Reply: names},
			{User: 0, Node: 2, Cmd: createCmd("out"), From: 5, To: 9, Reply: away()},
			{User: 0, Node: 2, Cmd: createCmd("b"), From: 6, To: -1},
			{User: 0, Node: 2, Cmd: list, From: 7, To: -1},
			{User: 2, Node: 0, Cmd: createCmd("c"), From: 7, To: 20, Reply: num(1)},
		},
		deeds: []impl.Deed{
			{At: 4, Call: 2, User: 0, Node: 1, Epoch: 2, Cmd: list},
			{At: 5, Call: 1, User: 0, Node: 1, Epoch: 2, Cmd: createCmd("in"), Reply: num(1)},
			{At: 6, Call: 2, User: 0, Node: 1, Epoch: 2, Cmd: list, Reply: names},
			{At: 9, Call: 6, User: 2, Node: 0, Epoch: 1, Cmd: createCmd("c"), Reply: num(1)},
			{At: 12, Call: 2, User: 0, Node: 1, Epoch: 2, Cmd: list, Reply: names},
			{At: 13, Call: 4, User: 0, Node: 2, Epoch: 4, Cmd: createCmd("b"), Reply: num(2)},
		},
	}
}

func checkAnswered(t *testing.T, why string, x asked, want bool) {
	t.Helper()
	if impl.Answered(x.calls, x.deeds) != want {
		t.Errorf("%s: Answered(%v, %v) is not %v", why, x.calls, x.deeds, want)
	}
	if plainAnswered(x) != want {
		t.Errorf("%s: the plain one is not %v", why, want)
	}
}

// plainAnswered goes by the document's words, sentence by sentence.
func plainAnswered(x asked) bool {
	for i, c := range x.calls {
		many, told := 0, false
		for _, d := range x.deeds {
			if d.Call != i+1 {
				continue
			}
			many++
			if d.User != c.User || d.Node != c.Node || !sameCmd(d.Cmd, c.Cmd) || d.At < c.From {
				return false
			}
			told = told || sameReply(d.Reply, c.Reply) && d.At <= c.To
		}
		if c.To >= 0 && c.Reply.Code != impl.RpAway && !told {
			return false
		}
		if many > 1 && mayChange(c.Cmd.Kind) {
			return false
		}
	}
	for i, d := range x.deeds {
		if d.Call < 1 || d.Call > len(x.calls) || d.User < 0 || d.User > 2 {
			return false
		}
		for _, o := range x.deeds[:i] {
			if o.User == d.User && (o.Epoch > d.Epoch || o.Epoch == d.Epoch && o.Node != d.Node) {
				return false
			}
		}
	}
	return true
}

func TestAnsweredOfNothing(t *testing.T) {
	checkAnswered(t, "no calls, no deeds", asked{}, true)
	checkAnswered(t, "empty lists", asked{[]impl.Call{}, []impl.Deed{}}, true)
	checkAnswered(t, "calls alone", asked{calls: []impl.Call{{To: -1}, {User: 9, Node: -4, To: -1}, {To: 5, Reply: away()}}}, true)
	checkAnswered(t, "a call that is answered, without a deed", asked{calls: []impl.Call{{To: 0}}}, false)
	checkAnswered(t, "deeds alone", asked{deeds: []impl.Deed{{Call: 1}}}, false)
	checkAnswered(t, "a deed of call 0", asked{deeds: []impl.Deed{{}}}, false)
}

func TestAnsweredOfCallsAndDeeds(t *testing.T) {
	checkAnswered(t, "as it is", goodAsked(), true)
	for _, x := range []struct {
		why    string
		want   bool
		change func(*asked)
	}{
		{"a deed of no call", false, func(x *asked) { x.deeds[5].Call = 7 }},
		{"a deed of call 0", false, func(x *asked) { x.deeds[5].Call = 0 }},
		{"a deed of call -1", false, func(x *asked) { x.deeds[5].Call = -1 }},
		{"a deed of a call far behind", false, func(x *asked) { x.deeds[5].Call = math.MaxInt }},
		{"a deed of the least call", false, func(x *asked) { x.deeds[5].Call = math.MinInt }},
		{"a deed of another call", false, func(x *asked) { x.deeds[5].Call = 5 }},
		{"a deed of another User", false, func(x *asked) { x.deeds[5].User = 1 }},
		{"a deed of another Node", false, func(x *asked) { x.deeds[5].Node = 0 }},
		{"a deed of another Cmd", false, func(x *asked) { x.deeds[5].Cmd = createCmd("a") }},
		{"a deed and its call of no user", false, func(x *asked) { x.deeds[5].User, x.calls[3].User = 3, 3 }},
		{"a deed and its call of user -1", false, func(x *asked) { x.deeds[5].User, x.calls[3].User = -1, -1 }},
		{"a call of no user, without deeds", true, func(x *asked) { x.calls[4].User = 3 }},
		{"At one below From", false, func(x *asked) { x.deeds[5].At = 5 }},
		{"At From", true, func(x *asked) { x.deeds[5].At = 6 }},
		{"At above From", true, func(x *asked) { x.deeds[5].At = 7 }},
		{"At To", true, func(x *asked) { x.deeds[1].At = 8 }},
		{"At one above To", false, func(x *asked) { x.deeds[1].At = 9 }},
		{"To at the deed's At", true, func(x *asked) { x.calls[0].To = 5 }},
		{"To one below the deed's At", false, func(x *asked) { x.calls[0].To = 4 }},
		{"To 0", false, func(x *asked) { x.calls[0].To = 0 }},
		{"To -1, with a reply", true, func(x *asked) { x.calls[0].To = -1 }},
		{"To -2, with a reply", true, func(x *asked) { x.calls[0].To = -2 }},
		{"another reply", false, func(x *asked) { x.calls[0].Reply = num(2) }},
		{"another code", false, func(x *asked) { x.calls[0].Reply.Code = impl.RpExists }},
		{"another reply of the deed", false, func(x *asked) { x.deeds[1].Reply = num(3) }},
		{"sent away, though it was done", true, func(x *asked) { x.calls[0].Reply = away() }},
		{"answered, though nothing was done", false, func(x *asked) { x.calls[2].Reply = num(1) }},
		{"answered, though it was not heard", false, func(x *asked) { x.calls[4].To = 30 }},
		{"answered by the first one of three", true, func(x *asked) { x.calls[1].To, x.calls[1].Reply = 4, impl.Reply{} }},
		{"answered by the second one at its time", true, func(x *asked) { x.calls[1].To = 6 }},
		{"answered by the second one ahead of it", false, func(x *asked) { x.calls[1].To = 5 }},
		{"answered by the last one", true, func(x *asked) { x.calls[1].To, x.deeds[2].Reply = 12, impl.Reply{} }},
		{"answered by the last one ahead of it", false, func(x *asked) { x.deeds[2].Reply = impl.Reply{} }},
		{"one of three of another Node", false, func(x *asked) { x.deeds[0].Node, x.deeds[0].Epoch = 2, 1 }},
		{"one of three ahead of From", false, func(x *asked) { x.deeds[0].At = 3 }},
		{"two deeds of one that may change something", false, func(x *asked) { x.deeds = slices.Insert(x.deeds, 2, x.deeds[1]) }},
		{"two deeds of one that may, not answered", false, func(x *asked) { x.deeds = append(x.deeds, x.deeds[5]) }},
		{"an Epoch that goes down", false, func(x *asked) { x.deeds[2].Epoch = 1 }},
		{"an Epoch that goes down at the end", false, func(x *asked) { x.deeds[5].Epoch = 1 }},
		{"one Epoch at two Nodes", false, func(x *asked) { x.deeds[5].Epoch = 2 }},
		{"one more Epoch at another Node", true, func(x *asked) { x.deeds[5].Epoch = 3 }},
		{"one more Epoch at the same Node", true, func(x *asked) { x.deeds[4].Epoch = 3 }},
		{"another user's Epoch is below", true, func(x *asked) { x.deeds[3].Epoch = -9 }},
		{"another user's Epoch is above", true, func(x *asked) { x.deeds[3].Epoch = 900 }},
		{"another user's Epoch at another Node", true, func(x *asked) { x.deeds[3].Epoch = 2 }},
		{"Epochs below 0", true, func(x *asked) {
			for i := range x.deeds {
				x.deeds[i].Epoch -= 100
			}
		}},
		{"times below 0", true, func(x *asked) { x.calls[3].From, x.deeds[5].At = -9, -9 }},
		{"times that go back", true, func(x *asked) { x.deeds[0].At, x.deeds[4].At = 30, 4 }},
		{"the last call has a deed", true, func(x *asked) { x.calls = x.calls[:6] }},
		{"the last call is missing", false, func(x *asked) { x.calls = x.calls[:5] }},
		{"the deed of the last call is missing", false, func(x *asked) { x.deeds = slices.Delete(x.deeds, 3, 4) }},
	} {
		y := goodAsked().clone()
		x.change(&y)
		checkAnswered(t, x.why, y, x.want)
	}
}

// The call and the deed of each kind of command: twice it may be done where it
// can change nothing alone.
func TestAnsweredOfEachKind(t *testing.T) {
	for _, c := range goodCmds() {
		d := impl.Deed{At: 2, Call: 1, Epoch: 1, Cmd: c}
		x := asked{[]impl.Call{{Cmd: c, From: 1, To: 3}}, []impl.Deed{d}}
		checkAnswered(t, "once", x, true)
		x.deeds = []impl.Deed{d, d}
		checkAnswered(t, "twice", x, c.Kind >= impl.CmFetch && c.Kind != impl.CmCopy)
		for _, other := range variants(c) {
			x.deeds = []impl.Deed{d}
			x.deeds[0].Cmd = other
			checkAnswered(t, "another command", x, sameCmd(c, other))
		}
	}
	for kind := impl.CmCreate; kind <= impl.CmList; kind++ {
		for _, r := range otherReplies(smallReply()) {
			c := goodCmds()[kind]
			x := asked{[]impl.Call{{Cmd: c, From: 1, To: 3, Reply: smallReply()}}, []impl.Deed{{At: 2, Call: 1, Epoch: 1, Cmd: c, Reply: r}}}
			checkAnswered(t, "another reply", x, false)
			x.deeds[0].Reply = smallReply()
			checkAnswered(t, "its reply", x, true)
		}
	}
}

// smallReply has all that a reply can have.
func smallReply() impl.Reply {
	return impl.Reply{Num: 2, Box: smallAccount().Boxes[0], Names: [][]byte{[]byte("a"), []byte("in")}}
}

// Each one of the ends of drawn scripts, with one thing turned.
func TestAnsweredOfTurnedEnds(t *testing.T) {
	met := map[bool]int{}
	eachDrawn(131, 25, func(draw func(int) int, houses int, l []impl.Action, p *plainCluster) {
		r := impl.Run(houses, l, draw(2) == 0)
		if len(r.Deeds) == 0 {
			return
		}
		for range 20 {
			x := asked{r.Calls, r.Deeds}.clone()
			d, c := &x.deeds[draw(len(x.deeds))], &x.calls[draw(len(x.calls))]
			by := draw(3) - 1
			switch draw(13) {
			case 0:
				d.At += 2 * by
			case 1:
				d.Call += by
			case 2:
				d.User = draw(3)
			case 3:
				d.Node = draw(houses)
			case 4:
				d.Epoch += by
			case 5:
				d.Cmd = c.Cmd
			case 6:
				d.Reply = x.deeds[draw(len(x.deeds))].Reply
			case 7:
				c.From += 2 * by
			case 8:
				c.To += 2 * by
			case 9:
				c.Reply = d.Reply
			case 10:
				x.deeds = append(x.deeds, *d)
			case 11:
				i, j := draw(len(x.deeds)), draw(len(x.deeds))
				x.deeds[i], x.deeds[j] = x.deeds[j], x.deeds[i]
			case 12:
				x.deeds = slices.Delete(x.deeds, 0, 1)
			}
			want := plainAnswered(x)
			checkAnswered(t, "turned", x, want)
			met[want]++
			if t.Failed() {
				t.FailNow()
			}
		}
	})
	if met[true] < 500 || met[false] < 500 {
		t.Error(met)
	}
}
