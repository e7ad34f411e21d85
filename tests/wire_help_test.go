package tests

import (
	"bytes"
	"regexp"
	"strconv"
	"strings"
	"testing"

	"loop.example/g00359/impl"
)

// What the tests of chapter 4 share: commands held against each other, and a
// plain writer and reader of lines and bytes, by the document's words.

func sameCmd(a impl.Cmd, b impl.Cmd) bool {
	return a.Kind == b.Kind && bytes.Equal(a.Box, b.Box) && bytes.Equal(a.To, b.To) && a.Uid == b.Uid &&
		a.Mode == b.Mode && a.Flags == b.Flags && a.Since == b.Since && bytes.Equal(a.Text, b.Text)
}

func zeroCmd(c impl.Cmd) bool { return sameCmd(c, impl.Cmd{}) }

func plainFlags(flags int) string {
	s := "("
	for i, letter := range []string{"S", "A", "F", "D", "R"} {
		if flags/[]int{1, 2, 4, 8, 16}[i]%2 == 1 {
			s += letter
		}
	}
	return s + ")"
}

func plainQuoted(text []byte) string {
	s := strings.ReplaceAll(string(text), "\x5c", "\x5c\x5c")
	return "\x22" + strings.ReplaceAll(s, "\x22", "\x5c\x22") + "\x22"
}

// plainCmdText wants a command that is CmdOk.
func plainCmdText(c impl.Cmd) string {
	box, uid, since := " "+string(c.Box), " "+strconv.Itoa(c.Uid), strconv.Itoa(c.Since)
	switch c.Kind {
	case 0:
		return "CREATE" + box
	case 1:
		return "DELETE" + box
	case 2:
		return "APPEND" + box + " " + plainFlags(c.Flags) + " " + plainQuoted(c.Text)
	case 3:
		s := "STORE" + box + uid + " " + []string{"IS", "WITH", "WITHOUT"}[c.Mode] + " " + plainFlags(c.Flags)
		if c.Since > 0 {
			s += " SINCE " + since
		}
		return s
	case 4:
		return "EXPUNGE" + box
	case 5:
		return "FETCH" + box + uid
	case 6:
		return "COPY" + box + uid + " " + string(c.To) + []string{"", " AWAY"}[c.Mode]
	case 7:
		return "STATUS" + box
	case 8:
		return "CHANGES" + box + " " + since
	}
	return "LIST"
}

// plainToken is a token as it stands in the line; sort is z of nought, u of
// any other number, n of a name, W of a word, F of FLAGS, T of TEXT.
type plainToken struct {
	sort byte
	at   int
	s    string
}

var (
	reBlanks = regexp.MustCompile(`^ +`)
	reFlags  = regexp.MustCompile(`^\(S?A?F?D?R?\)`)
	reText   = regexp.MustCompile(`^"([ !#-\[\]-~]|\\"|\\\\){0,30}"`)
	rePiece  = regexp.MustCompile(`^[0-9A-Za-z]+`)
	reName   = regexp.MustCompile(`^[a-z]{1,6}$`)
	reWord   = regexp.MustCompile(`^[A-Z]+$`)
	reNumber = regexp.MustCompile(`^([1-9][0-9]{0,5}|1000000)$`)
)

// plainTokens answers -1 or the place of what is no token.
func plainTokens(line []byte) ([]plainToken, int) {
	var l []plainToken
	for at := 0; at < len(line); {
		rest := line[at:]
		if m := reBlanks.Find(rest); m != nil {
			at += len(m)
			continue
		}
		t := plainToken{at: at}
		piece := rePiece.Find(rest)
		switch {
		case reFlags.Match(rest):
			t.sort, t.s = 'F', string(reFlags.Find(rest))
		case reText.Match(rest):
			t.sort, t.s = 'T', string(reText.Find(rest))
		case reName.Match(piece):
			t.sort, t.s = 'n', string(piece)
		case reWord.Match(piece):
			t.sort, t.s = 'W', string(piece)
		case reNumber.Match(piece):
			t.sort, t.s = 'u', string(piece)
		case string(piece) == "0":
			t.sort, t.s = 'z', string(piece)
		default:
			return nil, at
		}
		l = append(l, t)
		at += len(t.s)
	}
	return l, -1
}

// plainForms are all rows of tokens that make a command: n, F and T stand for
// tokens of these sorts, u for a number above nought, z for any number.
func plainForms() [][]string {
	return [][]string{
		{"CREATE", "n"}, {"DELETE", "n"}, {"EXPUNGE", "n"}, {"STATUS", "n"}, {"LIST"},
		{"APPEND", "n", "F", "T"}, {"FETCH", "n", "u"}, {"CHANGES", "n", "z"},
		{"STORE", "n", "u", "IS", "F"}, {"STORE", "n", "u", "IS", "F", "SINCE", "u"},
		{"STORE", "n", "u", "WITH", "F"}, {"STORE", "n", "u", "WITH", "F", "SINCE", "u"},
		{"STORE", "n", "u", "WITHOUT", "F"}, {"STORE", "n", "u", "WITHOUT", "F", "SINCE", "u"},
		{"COPY", "n", "u", "n"}, {"COPY", "n", "u", "n", "AWAY"},
	}
}

func plainFits(t plainToken, want string) bool {
	switch want {
	case "n", "F", "T", "u":
		return string(t.sort) == want
	case "z":
		return t.sort == 'z' || t.sort == 'u'
	}
	return t.sort == 'W' && t.s == want
}

// plainFit answers how many of the tokens fit the row from its beginning on.
func plainFit(l []plainToken, row []string) int {
	n := 0
	for n < len(l) && n < len(row) && plainFits(l[n], row[n]) {
		n++
	}
	return n
}

func plainCmdRead(line []byte) (impl.Cmd, int, int) {
	if len(line) > 120 {
		return impl.Cmd{}, 1, 0
	}
	l, none := plainTokens(line)
	if none >= 0 {
		return impl.Cmd{}, 2, none
	}
	most := 0
	for _, row := range plainForms() {
		n := plainFit(l, row)
		if n == len(l) && n == len(row) {
			return plainCmdOf(l, row), 0, 0
		}
		most = max(most, n)
	}
	if most == len(l) {
		return impl.Cmd{}, 3, len(line)
	}
	return impl.Cmd{}, 3, l[most].at
}

// plainCmdOf wants tokens that fit the whole row.
func plainCmdOf(l []plainToken, row []string) impl.Cmd {
	words := strings.Fields("CREATE DELETE APPEND STORE EXPUNGE FETCH COPY STATUS CHANGES LIST")
	var c impl.Cmd
	for i, word := range words {
		if word == row[0] {
			c.Kind = i
		}
	}
	for i, want := range row {
		s := l[i].s
		n, _ := strconv.Atoi(s)
		switch {
		case want == "n" && i == 1:
			c.Box = []byte(s)
		case want == "n":
			c.To = []byte(s)
		case want == "u" && i == 2:
			c.Uid = n
		case want == "u" || want == "z":
			c.Since = n
		case want == "WITH" || want == "AWAY":
			c.Mode = 1
		case want == "WITHOUT":
			c.Mode = 2
		case want == "F":
			for j, letter := range "SAFDR" {
				if strings.ContainsRune(s, letter) {
					c.Flags += []int{1, 2, 4, 8, 16}[j]
				}
			}
		case want == "T":
			s = s[1 : len(s)-1]
			c.Text = []byte(regexp.MustCompile(`\\(.)`).ReplaceAllString(s, "$1"))
		}
	}
	return c
}

func checkLine(t *testing.T, line string, want impl.Cmd, wantCode int, wantAt int) {
	t.Helper()
	c, code, at := impl.CmdRead([]byte(line))
	if !sameCmd(c, want) || code != wantCode || at != wantAt {
		t.Errorf("CmdRead(%q) answers %v, %d, %d, want %v, %d, %d", line, c, code, at, want, wantCode, wantAt)
	}
}

func checkWell(t *testing.T, line string, want impl.Cmd) {
	t.Helper()
	checkLine(t, line, want, impl.LnWell, 0)
}

func checkRefused(t *testing.T, line string, wantCode int, wantAt int) {
	t.Helper()
	checkLine(t, line, impl.Cmd{}, wantCode, wantAt)
}

// checkPlain holds a line against the plain reader; it answers the code.
func checkPlain(t *testing.T, line []byte) int {
	t.Helper()
	want, wantCode, wantAt := plainCmdRead(line)
	checkLine(t, string(line), want, wantCode, wantAt)
	return wantCode
}

// plainPut puts numbers and texts one by one. The number that is put as the
// one at place long has a byte more than it needs.
type plainPut struct {
	out  []byte
	put  int
	long int
}

func (p *plainPut) num(n int) {
	var l []byte
	for n > 127 {
		l = append(l, byte(n%128+128))
		n /= 128
	}
	l = append(l, byte(n))
	if p.put == p.long {
		l[len(l)-1] += 128
		l = append(l, 0)
	}
	p.put++
	p.out = append(p.out, l...)
}

func (p *plainPut) text(t []byte) {
	p.num(len(t))
	p.out = append(p.out, t...)
}

func (p *plainPut) account(a impl.Account) {
	p.num(a.Valid)
	p.num(len(a.Boxes))
	for _, b := range a.Boxes {
		p.text(b.Name)
		p.num(b.Valid)
		p.num(b.Next)
		p.num(b.Seq)
		p.num(b.Lost)
		p.num(len(b.Mails))
		for _, m := range b.Mails {
			p.num(m.Uid)
			p.num(m.Flags)
			p.num(m.Seq)
			p.text(m.Text)
		}
		p.num(len(b.Gones))
		for _, g := range b.Gones {
			p.num(g.Uid)
			p.num(g.Seq)
		}
	}
	p.num(len(a.Seen))
	for _, n := range a.Seen {
		p.num(n)
	}
}

// plainAccountBytes puts any account whose numbers are not below 0, whether it
// may be or not.
func plainAccountBytes(a impl.Account) []byte {
	p := plainPut{long: -1}
	p.account(a)
	return p.out
}

// plainGet gets numbers and texts one by one; bad, once one was not there.
type plainGet struct {
	b   []byte
	at  int
	bad bool
}

func (g *plainGet) num() int {
	n, next := plainGetNum(g.b, g.at)
	if g.bad || next < 0 {
		g.bad = true
		return 0
	}
	g.at = next
	return n
}

func (g *plainGet) text() []byte {
	n := g.num()
	if g.bad || n > 30 || n > len(g.b)-g.at {
		g.bad = true
		return nil
	}
	g.at += n
	return bytes.Clone(g.b[g.at-n : g.at])
}

func plainAccountRead(b []byte) (impl.Account, bool) {
	g := plainGet{b: b}
	a := impl.Account{Valid: g.num()}
	for n := g.num(); n > 0 && !g.bad; n-- {
		var x impl.Box
		x.Name = g.text()
		x.Valid = g.num()
		x.Next = g.num()
		x.Seq = g.num()
		x.Lost = g.num()
		for n := g.num(); n > 0 && !g.bad; n-- {
			var m impl.Mail
			m.Uid = g.num()
			m.Flags = g.num()
			m.Seq = g.num()
			m.Text = g.text()
			x.Mails = append(x.Mails, m)
		}
		for n := g.num(); n > 0 && !g.bad; n-- {
			var y impl.Gone
			y.Uid = g.num()
			y.Seq = g.num()
			x.Gones = append(x.Gones, y)
		}
		a.Boxes = append(a.Boxes, x)
	}
	for n := g.num(); n > 0 && !g.bad; n-- {
		a.Seen = append(a.Seen, g.num())
	}
	if g.bad || g.at != len(b) || !impl.AccountOk(a) {
		return impl.Account{}, false
	}
	return a, true
}
