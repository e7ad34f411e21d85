package tests

import (
	"math"
	"slices"
	"testing"

	"loop.example/g00359/impl"
)

// Promise 4: a box as it was, and what changed since, make the box as it is.

func mergeOld() impl.Box {
	return impl.Box{Name: []byte("in"), Valid: 7, Next: 6, Seq: 20, Lost: 2,
		Mails: []impl.Mail{{Uid: 1, Flags: 1, Seq: 3, Text: []byte("one")}, {Uid: 3, Flags: 3, Seq: 5, Text: []byte("three")}, {Uid: 4, Seq: 20}},
		Gones: []impl.Gone{{Uid: 2, Seq: 19}}}
}

func mergeNew() impl.Box {
	return impl.Box{Name: []byte("in"), Valid: 7, Next: 9, Seq: 30, Lost: 19,
		Mails: []impl.Mail{{Uid: 3, Flags: 8, Seq: 25, Text: []byte("Three")}, {Uid: 8, Flags: 2, Seq: 28, Text: []byte("eight")}},
		Gones: []impl.Gone{{Uid: 6, Seq: 24}, {Uid: 4, Seq: 27}}}
}

func checkMerge(t *testing.T, why string, old impl.Box, ch impl.Box, want impl.Box) {
	t.Helper()
	got, ok := impl.Merge(old, ch)
	if !ok || !sameBox(got, want) {
		t.Errorf("%s: Merge of %v and %v is %v, %v, want %v", why, old, ch, got, ok, want)
	}
}

func checkNoMerge(t *testing.T, why string, old impl.Box, ch impl.Box) {
	t.Helper()
	got, ok := impl.Merge(old, ch)
	if ok || !sameBox(got, impl.Box{}) {
		t.Errorf("%s: Merge of %v and %v is %v, %v, want the zero value and false", why, old, ch, got, ok)
	}
}

func TestMerge(t *testing.T) {
	old, ch := mergeOld(), mergeNew()
	want := impl.Box{Name: []byte("in"), Valid: 7, Next: 9, Seq: 30, Lost: 19,
		Mails: []impl.Mail{old.Mails[0], ch.Mails[0], ch.Mails[1]}}
	checkMerge(t, "one stays, one changed, one went, one came", old, ch, want)

	bare := impl.Box{Name: []byte("in"), Valid: 7, Next: 6, Seq: 20, Lost: 20}
	want = bare
	want.Mails = old.Mails
	checkMerge(t, "nothing changed", old, bare, want)
	bare.Lost = 0
	want.Lost = 0
	checkMerge(t, "a smaller Lost", old, bare, want)

	want = old
	want.Gones = nil
	checkMerge(t, "itself", old, old, want)
	empty := impl.Box{Name: []byte("in"), Valid: 7, Next: 1}
	want = ch
	want.Gones = nil
	checkMerge(t, "an empty box", empty, ch, want)
	checkMerge(t, "two empty boxes", empty, empty, empty)
}

// An older Seq in ch's mail counts for nothing: it is ch's that is taken.
func TestMergeTakesWhatChTells(t *testing.T) {
	old, ch := mergeOld(), mergeNew()
	ch.Mails[0].Seq = 1
	got, ok := impl.Merge(old, ch)
	if !ok || !sameMail(got.Mails[1], ch.Mails[0]) {
		t.Errorf("Merge takes %v, %v, where ch tells %v", got.Mails, ok, ch.Mails[0])
	}
	old.Gones = append(old.Gones, impl.Gone{Uid: 5, Seq: 20})
	ch.Mails = slices.Insert(ch.Mails, 1, impl.Mail{Uid: 5, Seq: 26})
	got, ok = impl.Merge(old, ch)
	if !ok || mailOf(&got, 5) == nil {
		t.Errorf("Merge takes %v, %v, where ch tells of a mail that old says went", got.Mails, ok)
	}
}

func TestMergeAtTheLimits(t *testing.T) {
	old, ch := mergeOld(), mergeNew()
	for _, valid := range []int{1, impl.MaxSeq} {
		old.Valid, ch.Valid = valid, valid
		if _, ok := impl.Merge(old, ch); !ok {
			t.Errorf("Valid %d: Merge is false", valid)
		}
	}
	for _, valid := range []int{math.MinInt, -1, 0, impl.MaxSeq + 1, math.MaxInt} {
		old.Valid, ch.Valid = valid, valid
		checkNoMerge(t, "a Valid that no box has", old, ch)
	}
	old, ch = mergeOld(), mergeNew()
	old.Seq, old.Next = ch.Seq, ch.Next
	if _, ok := impl.Merge(old, ch); !ok {
		t.Error("the same Seq and Next: Merge is false")
	}
	ch.Seq, ch.Next = impl.MaxSeq, impl.MaxSeq
	if _, ok := impl.Merge(old, ch); !ok {
		t.Error("Seq and Next at MaxSeq: Merge is false")
	}
}

func TestMergeRefusesBoxesThatDiffer(t *testing.T) {
	for why, change := range map[string]func(old *impl.Box, ch *impl.Box){
		"another name":            func(old *impl.Box, ch *impl.Box) { ch.Name = []byte("im") },
		"a longer name":           func(old *impl.Box, ch *impl.Box) { ch.Name = []byte("inn") },
		"a greater Valid":         func(old *impl.Box, ch *impl.Box) { ch.Valid = 8 },
		"a smaller Valid":         func(old *impl.Box, ch *impl.Box) { ch.Valid = 6 },
		"a smaller Seq":           func(old *impl.Box, ch *impl.Box) { old.Seq = 31 },
		"a much smaller Seq":      func(old *impl.Box, ch *impl.Box) { old.Seq = impl.MaxSeq },
		"a smaller Next":          func(old *impl.Box, ch *impl.Box) { old.Next = 10 },
		"a much smaller Next":     func(old *impl.Box, ch *impl.Box) { old.Next = impl.MaxSeq },
		"old and ch turned round": func(old *impl.Box, ch *impl.Box) { *old, *ch = *ch, *old },
	} {
		old, ch := mergeOld(), mergeNew()
		change(&old, &ch)
		checkNoMerge(t, why, old, ch)
	}
	checkNoMerge(t, "no boxes", impl.Box{}, impl.Box{})
}

func TestMergeRefusesBoxesThatAreNotAsTheyShouldBe(t *testing.T) {
	for why, change := range map[string]func(*impl.Box){
		"no name":                      func(b *impl.Box) { b.Name = nil },
		"a name of MaxName + 1":        func(b *impl.Box) { b.Name = []byte("abcdefg") },
		"a name with a great letter":   func(b *impl.Box) { b.Name = []byte("iN") },
		"Next 0":                       func(b *impl.Box) { b.Next = 0 },
		"Next above MaxSeq":            func(b *impl.Box) { b.Next = impl.MaxSeq + 1 },
		"Seq below 0":                  func(b *impl.Box) { b.Seq = -1 },
		"Seq above MaxSeq":             func(b *impl.Box) { b.Seq = impl.MaxSeq + 1 },
		"Lost below 0":                 func(b *impl.Box) { b.Lost = -1 },
		"Lost above Seq":               func(b *impl.Box) { b.Lost = b.Seq + 1 },
		"mails turned round":           func(b *impl.Box) { slices.Reverse(b.Mails) },
		"two mails alike":              func(b *impl.Box) { b.Mails[1].Uid = b.Mails[0].Uid },
		"a Uid at Next":                func(b *impl.Box) { b.Mails[len(b.Mails)-1].Uid = b.Next },
		"a Uid 0":                      func(b *impl.Box) { b.Mails[0].Uid = 0 },
		"flags above MaxFlags":         func(b *impl.Box) { b.Mails[0].Flags = 32 },
		"a mail's Seq 0":               func(b *impl.Box) { b.Mails[0].Seq = 0 },
		"a mail's Seq above the box's": func(b *impl.Box) { b.Mails[0].Seq = b.Seq + 1 },
		"byte 127 in a text":           func(b *impl.Box) { b.Mails[0].Text = []byte{127} },
		"a text of MaxText + 1":        func(b *impl.Box) { b.Mails[0].Text = make([]byte, 31) },
		"a Gone with a mail's Uid":     func(b *impl.Box) { b.Gones[0].Uid = b.Mails[0].Uid },
		"a Gone below Lost":            func(b *impl.Box) { b.Gones[0].Seq = b.Lost - 1 },
		"a Gone above Seq":             func(b *impl.Box) { b.Gones[0].Seq = b.Seq + 1 },
		"MaxMsgs + 1 mails": func(b *impl.Box) {
			*b = fullBox("in", 7)
			b.Mails = append(b.Mails, impl.Mail{Uid: b.Next, Seq: b.Seq})
			b.Next++
		},
		"MaxGone + 1 Gones": func(b *impl.Box) {
			*b = fullBox("in", 7)
			b.Gones = append(b.Gones, impl.Gone{Uid: b.Next, Seq: b.Seq})
			b.Next++
		},
	} {
		old, ch := mergeOld(), mergeNew()
		change(&old)
		checkNoMerge(t, "old has "+why, old, ch)
		old = mergeOld()
		change(&ch)
		checkNoMerge(t, "ch has "+why, old, ch)
		old = mergeOld()
		change(&old)
		checkNoMerge(t, "both have "+why, old, ch)
	}
}

// mailsFrom answers so many mails, from this Uid on.
func mailsFrom(uid int, many int) []impl.Mail {
	var l []impl.Mail
	for i := range many {
		l = append(l, impl.Mail{Uid: uid + i, Seq: 1 + i})
	}
	return l
}

func TestMergeOfManyMails(t *testing.T) {
	box := func(l []impl.Mail) impl.Box {
		return impl.Box{Name: []byte("in"), Valid: 7, Next: 40, Seq: 50, Mails: l}
	}
	for _, x := range []struct {
		why string
		old []impl.Mail
		ch  []impl.Mail
		ok  bool
	}{
		{"12 and 0", mailsFrom(1, 12), nil, true},
		{"0 and 12", nil, mailsFrom(1, 12), true},
		{"11 and 1", mailsFrom(1, 11), mailsFrom(20, 1), true},
		{"1 and 11", mailsFrom(20, 1), mailsFrom(1, 11), true},
		{"6 and 6", mailsFrom(20, 6), mailsFrom(1, 6), true},
		{"12 and the same 12", mailsFrom(1, 12), mailsFrom(1, 12), true},
		{"12 and 1", mailsFrom(1, 12), mailsFrom(20, 1), false},
		{"1 and 12", mailsFrom(1, 1), mailsFrom(20, 12), false},
		{"12 and 12", mailsFrom(1, 12), mailsFrom(20, 12), false},
		{"12 and 12, all the same but one", mailsFrom(1, 12), mailsFrom(2, 12), false},
		{"7 and 6", mailsFrom(1, 7), mailsFrom(8, 6), false},
	} {
		if !x.ok {
			checkNoMerge(t, x.why, box(x.old), box(x.ch))
			continue
		}
		all := slices.Clone(x.ch)
		for _, m := range x.old {
			if !slices.ContainsFunc(x.ch, func(o impl.Mail) bool { return o.Uid == m.Uid }) {
				all = append(all, m)
			}
		}
		slices.SortFunc(all, func(a, b impl.Mail) int { return a.Uid - b.Uid })
		checkMerge(t, x.why, box(x.old), box(x.ch), box(all))
	}
	ch := box(mailsFrom(20, 1))
	ch.Gones = []impl.Gone{{Uid: 12, Seq: 50}}
	want := box(append(mailsFrom(1, 11), mailsFrom(20, 1)...))
	checkMerge(t, "12 and 1, and one that went", box(mailsFrom(1, 12)), ch, want)
}

// plainMerge wants boxes as they should be.
func plainMerge(old impl.Box, ch impl.Box) (impl.Box, bool) {
	if string(old.Name) != string(ch.Name) || old.Valid != ch.Valid || ch.Seq < old.Seq || ch.Next < old.Next {
		return impl.Box{}, false
	}
	want := impl.Box{Name: ch.Name, Valid: ch.Valid, Next: ch.Next, Seq: ch.Seq, Lost: ch.Lost}
	for uid := max(1, min(ch.Next, old.Next)-200); uid < ch.Next; uid++ {
		went := slices.ContainsFunc(ch.Gones, func(g impl.Gone) bool { return g.Uid == uid })
		if m := mailOf(&ch, uid); m != nil {
			want.Mails = append(want.Mails, *m)
		} else if m := mailOf(&old, uid); m != nil && !went {
			want.Mails = append(want.Mails, *m)
		}
	}
	if len(want.Mails) > 12 {
		return impl.Box{}, false
	}
	return want, true
}

func TestMergeOfManyBoxes(t *testing.T) {
	draw := draws(11)
	merged, refused := 0, 0
	for range 40000 {
		old, ch := drawnBox(draw, "in", 3), drawnBox(draw, "in", 3)
		if ch.Next-old.Next > 200 {
			continue
		}
		want, wantOk := plainMerge(old, ch)
		got, ok := impl.Merge(old, ch)
		if ok != wantOk || !sameBox(got, want) {
			t.Fatalf("Merge of %v and %v is\n%v, %v, want\n%v, %v", old, ch, got, ok, want, wantOk)
		}
		if ok {
			merged++
		} else {
			refused++
		}
	}
	if merged < 1000 || refused < 1000 {
		t.Fatal(merged, refused)
	}
}

// checkKnows wants what CmChanges tells since old, merged into old, to have
// the mails of the box b; it answers whether that is stale.
func checkKnows(t *testing.T, a impl.Account, b impl.Box, old impl.Box) bool {
	t.Helper()
	_, r := impl.Do(a, impl.Cmd{Kind: impl.CmChanges, Box: b.Name, Since: old.Seq})
	if r.Code == impl.RpStale {
		if old.Seq >= b.Lost || r.Num != b.Lost {
			t.Errorf("stale since %d, where Lost is %d: %v", old.Seq, b.Lost, r)
		}
		return true
	}
	got, ok := impl.Merge(old, r.Box)
	want := b
	want.Gones = nil
	if !ok || !sameBox(got, want) {
		t.Errorf("Merge of %v and %v is\n%v, %v, want\n%v", old, r.Box, got, ok, want)
	}
	return false
}

// Each box is remembered as it was at times, whatever the commands are.
func TestWhoAsksWhatChangedKnowsWhatIs(t *testing.T) {
	draw := draws(13)
	told, others := 0, 0
	kept := map[int][]impl.Box{}
	now := -1
	walk(t, 300, 150, func(life int, was impl.Account, c impl.Cmd, is impl.Account, r impl.Reply) {
		if life != now {
			now, kept = life, map[int][]impl.Box{}
		}
		for _, b := range was.Boxes {
			if draw(8) == 0 {
				kept[b.Valid] = append(kept[b.Valid], b)
			}
		}
		for _, b := range is.Boxes {
			if len(kept[b.Valid]) == 0 {
				continue
			}
			old := kept[b.Valid][draw(len(kept[b.Valid]))]
			checkKnows(t, is, b, old)
			told++
			if !sameMails(old.Mails, b.Mails) {
				others++
			}
		}
	})
	if told < 10000 || others < 10000 {
		t.Fatal(told, others)
	}
}

// One box in which so many mails come and go that what went is lost; each
// state of it is held against each one ahead of it.
func TestWhoAsksTooLateIsTold(t *testing.T) {
	draw := draws(17)
	a, _ := impl.Do(impl.Account{}, inCmd(impl.CmCreate))
	kept := []impl.Box{a.Boxes[0]}
	told, staled := 0, 0
	for range 400 {
		c := inCmd([]int{impl.CmAppend, impl.CmAppend, impl.CmAppend, impl.CmExpunge, impl.CmCopy, impl.CmStore}[draw(6)])
		switch c.Kind {
		case impl.CmAppend:
			c.Flags = impl.FlDeleted * draw(2)
		case impl.CmCopy:
			c.To, c.Uid, c.Mode = c.Box, max(1, a.Boxes[0].Next-1-draw(12)), 1
		case impl.CmStore:
			c.Uid, c.Flags = max(1, a.Boxes[0].Next-1-draw(12)), draw(32)
		}
		a, _ = impl.Do(a, c)
		for _, old := range kept {
			if checkKnows(t, a, a.Boxes[0], old) {
				staled++
			} else {
				told++
			}
		}
		if t.Failed() {
			t.FailNow()
		}
		kept = append(kept, a.Boxes[0])
	}
	if told < 1000 || staled < 1000 {
		t.Fatal(told, staled)
	}
}
