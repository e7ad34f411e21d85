package tests

import (
	"strings"
	"testing"

	"loop.example/g00359/impl"
)

// CmdRead: what is a line, what is none, and the places of what is wrong.

func TestCmdReadOfLongLines(t *testing.T) {
	list := impl.Cmd{Kind: impl.CmList}
	checkWell(t, "LIST"+strings.Repeat(" ", 116), list)
	checkWell(t, strings.Repeat(" ", 116)+"LIST", list)
	checkRefused(t, "LIST"+strings.Repeat(" ", 117), impl.LnLong, 0)
	checkRefused(t, strings.Repeat(" ", 117)+"LIST", impl.LnLong, 0)
	checkRefused(t, strings.Repeat(" ", 120), impl.LnForm, 120)
	checkRefused(t, strings.Repeat(" ", 121), impl.LnLong, 0)
	checkRefused(t, strings.Repeat("?", 120), impl.LnByte, 0)
	checkRefused(t, strings.Repeat("?", 121), impl.LnLong, 0)
	checkRefused(t, strings.Repeat(" ", 119)+"?", impl.LnByte, 119)
	checkRefused(t, strings.Repeat(" ", 120)+"?", impl.LnLong, 0)
	checkRefused(t, strings.Repeat("A", 120), impl.LnForm, 0)
	checkRefused(t, strings.Repeat("A", 121), impl.LnLong, 0)
	checkRefused(t, strings.Repeat("LIST ", 200000), impl.LnLong, 0)
	name := impl.Cmd{Kind: impl.CmCreate, Box: []byte("abcdef")}
	checkWell(t, "CREATE"+strings.Repeat(" ", 108)+"abcdef", name)
	checkRefused(t, "CREATE"+strings.Repeat(" ", 109)+"abcdef", impl.LnLong, 0)
	checkRefused(t, "CREATE"+strings.Repeat(" ", 108)+"ABCDEF", impl.LnForm, 114)
	checkRefused(t, "CREATE a"+strings.Repeat(" ", 111)+"b", impl.LnForm, 119)
	checkRefused(t, "CREATE a"+strings.Repeat(" ", 112)+"b", impl.LnLong, 0)
}

func TestCmdReadOfEmptyLines(t *testing.T) {
	if c, code, at := impl.CmdRead(nil); !zeroCmd(c) || code != impl.LnForm || at != 0 {
		t.Error(c, code, at)
	}
	checkRefused(t, "", impl.LnForm, 0)
	checkRefused(t, " ", impl.LnForm, 1)
	checkRefused(t, "   ", impl.LnForm, 3)
}

// Byte 32 alone is a blank.
func TestBlanksBetweenTokens(t *testing.T) {
	for _, x := range knownLines() {
		if strings.Contains(x.line, `"`) {
			continue
		}
		for _, many := range []int{1, 2, 5} {
			checkWell(t, strings.ReplaceAll(x.line, " ", strings.Repeat(" ", many)), x.c)
		}
		for _, other := range []string{"\t", "\n", "\r", "\x00", "\x1f", "\v", "\u00a0"} {
			if at := strings.Index(x.line, " "); at >= 0 {
				checkRefused(t, strings.Replace(x.line, " ", other, 1), impl.LnByte, at)
			}
			checkRefused(t, x.line+other, impl.LnByte, len(x.line))
			checkRefused(t, other+x.line, impl.LnByte, 0)
		}
	}
	c := impl.Cmd{Kind: impl.CmAppend, Box: []byte("a"), Flags: 1, Text: []byte("x  y ")}
	checkWell(t, `  APPEND   a  (S)    "x  y "   `, c)
}

// A token ends where its form does, whether a blank is behind it or not.
func TestTokensWithNoBlankBetween(t *testing.T) {
	c := impl.Cmd{Kind: impl.CmAppend, Box: []byte("a"), Flags: 1, Text: []byte("x")}
	for _, line := range []string{`APPEND a (S)"x"`, `APPEND a(S) "x"`, `APPEND a(S)"x"`} {
		checkWell(t, line, c)
	}
	s := impl.Cmd{Kind: impl.CmStore, Box: []byte("a"), Uid: 1, Mode: 1, Flags: 16, Since: 3}
	checkWell(t, `STORE a 1 WITH(R)SINCE 3`, s)
	checkRefused(t, `STORE a 1 WITH(R)SINCE`, impl.LnForm, 22)
	checkRefused(t, `STORE a 1 WITH(R)SINCE3`, impl.LnByte, 17)
	checkRefused(t, `STORE a1 WITH (R)`, impl.LnByte, 6)
	checkRefused(t, `STOREa 1 WITH (R)`, impl.LnByte, 0)
	checkRefused(t, `STORE a 1WITH (R)`, impl.LnByte, 8)
	checkRefused(t, `LISTLIST`, impl.LnForm, 0)
	checkRefused(t, `LIST()`, impl.LnForm, 4)
	checkRefused(t, `LIST""`, impl.LnForm, 4)
	checkRefused(t, `APPEND a()()"x"`, impl.LnForm, 10)
	checkRefused(t, `APPEND a()"x""y"`, impl.LnForm, 13)
	checkRefused(t, `APPEND a()"x"y`, impl.LnForm, 13)
	checkRefused(t, `APPEND a()"x"?`, impl.LnByte, 13)
	checkRefused(t, `FETCH a 1)`, impl.LnByte, 9)
	checkRefused(t, `LIST;`, impl.LnByte, 4)
}

// splitLine answers the tokens of a known line.
func splitLine(line string) []string {
	l, _ := plainTokens([]byte(line))
	var out []string
	for _, x := range l {
		out = append(out, x.s)
	}
	return out
}

// isWhole tells whether a row of a known line's first tokens is a line itself.
func isWhole(tokens []string) bool {
	return tokens[0] == "STORE" && len(tokens) == 5 || tokens[0] == "COPY" && len(tokens) == 4
}

func TestATokenTooFew(t *testing.T) {
	for _, x := range knownLines() {
		tokens := splitLine(x.line)
		for n := range len(tokens) {
			if n > 0 && isWhole(tokens[:n]) {
				continue
			}
			line := strings.Join(tokens[:n], " ")
			checkRefused(t, line, impl.LnForm, len(line))
			checkRefused(t, line+" ", impl.LnForm, len(line)+1)
			checkRefused(t, "  "+line+"   ", impl.LnForm, len(line)+5)
		}
	}
}

// oneOfEach are tokens of each sort; a word is there that is in no line.
func oneOfEach() []string {
	return []string{"0", "1", "12", "1000000", "a", "inbox", "()", "(SAFDR)", `""`, `"x y"`, "LIST", "SINCE", "AWAY", "IS", "WITH", "WITHOUT", "OK", "S", "CREATE"}
}

func TestATokenTooMany(t *testing.T) {
	for _, x := range knownLines() {
		tokens := splitLine(x.line)
		for _, more := range oneOfEach() {
			if isWhole(tokens) && (more == "SINCE" || more == "AWAY") {
				continue
			}
			checkRefused(t, x.line+" "+more, impl.LnForm, len(x.line)+1)
			checkRefused(t, x.line+"  "+more+" a", impl.LnForm, len(x.line)+2)
		}
	}
	checkRefused(t, "STORE a 1 IS () AWAY", impl.LnForm, 16)
	checkRefused(t, "COPY a 1 b SINCE 4", impl.LnForm, 11)
	checkRefused(t, "STORE a 1 IS () SINCE 4 SINCE 4", impl.LnForm, 24)
	checkRefused(t, "COPY a 1 b AWAY AWAY", impl.LnForm, 16)
}

// Each token of each line in turn is another one, of each sort.
func TestATokenOfTheWrongSort(t *testing.T) {
	refused := 0
	for _, x := range knownLines() {
		tokens := splitLine(x.line)
		for i := range tokens {
			for _, other := range oneOfEach() {
				turned := append([]string{}, tokens...)
				turned[i] = other
				if checkPlain(t, []byte(strings.Join(turned, " "))) == impl.LnForm {
					refused++
				}
			}
		}
	}
	if refused < 1000 {
		t.Fatal(refused)
	}
	for _, x := range []struct {
		line string
		at   int
	}{
		{"a", 0}, {"1", 0}, {"() a", 0}, {`"CREATE" a`, 0}, {"create a", 0}, {"CREAT a", 0}, {"CREATES a", 0}, {"IS a", 0}, {"OK 1", 0},
		{"CREATE LIST", 7}, {"CREATE 1", 7}, {"CREATE ()", 7}, {`CREATE "a"`, 7}, {"DELETE A", 7}, {"EXPUNGE 0", 8}, {"STATUS STATUS", 7},
		{`APPEND () "x"`, 7}, {`APPEND a "x"`, 9}, {"APPEND a () x", 12}, {"APPEND a () ()", 12}, {`APPEND a S "x"`, 9}, {`APPEND a "x" ()`, 9},
		{"APPEND a () 5", 12}, {"APPEND a () X", 12},
		{"STORE 1 a IS ()", 6}, {"STORE a b IS ()", 8}, {"STORE a 1 ()", 10}, {"STORE a 1 IS 5", 13}, {"STORE a 1 IS S", 13},
		{"STORE a 1 AWAY ()", 10}, {"STORE a 1 is ()", 10}, {"STORE a 1 IS () 5", 16}, {"STORE a 1 IS () since 5", 16},
		{"STORE a 1 IS () SINCE a", 22}, {"STORE a 1 IS () SINCE SINCE", 22}, {"STORE a 1 IS () SINCE ()", 22},
		{"STORE a 0 IS ()", 8}, {"STORE a 1 IS () SINCE 0", 22},
		{"FETCH a a", 8}, {"FETCH a 0", 8}, {"FETCH a FETCH", 8}, {"FETCH 1", 6},
		{"COPY a b 1", 7}, {"COPY a 0 b", 7}, {"COPY a 1 2", 9}, {"COPY a 1 AWAY", 9}, {"COPY a 1 b c", 11}, {"COPY a 1 b away", 11}, {"COPY a 1 b IS", 11},
		{"CHANGES a a", 10}, {"CHANGES a SINCE", 10}, {"CHANGES 0", 8}, {"LIST a", 5}, {"LIST LIST", 5}, {"LIST 0", 5},
	} {
		checkRefused(t, x.line, impl.LnForm, x.at)
	}
}

// Where several tokens can't stand where they do, the first one counts.
func TestTheFirstTokenThatCantStandCounts(t *testing.T) {
	checkRefused(t, "FETCH 0 0 0 0", impl.LnForm, 6)
	checkRefused(t, "FETCH a 0 b", impl.LnForm, 8)
	checkRefused(t, "a b c", impl.LnForm, 0)
	checkRefused(t, "STORE a 0 AS 5 SINCE 0", impl.LnForm, 8)
	checkRefused(t, "STORE a 1 AS 5 SINCE 0", impl.LnForm, 10)
	checkRefused(t, "STORE a 1 IS 5 SINCE 0", impl.LnForm, 13)
	checkRefused(t, "COPY A", impl.LnForm, 5)
}

func TestCmdReadOfNames(t *testing.T) {
	for _, name := range []string{"a", "z", "az", "abcdef", "zzzzzz"} {
		checkWell(t, "CREATE "+name, impl.Cmd{Box: []byte(name)})
		checkWell(t, "COPY a 1 "+name, impl.Cmd{Kind: impl.CmCopy, Box: []byte("a"), Uid: 1, To: []byte(name)})
	}
	for _, none := range []string{"abcdefg", "aaaaaaaaaaaaaaaaaaaaaaaaaaaaaaaa", "a1", "1a", "aB", "Ab", "abcdefG", "A1", "1A", "inbox0"} {
		checkRefused(t, "CREATE "+none, impl.LnByte, 7)
		checkRefused(t, "COPY a 1 "+none, impl.LnByte, 9)
		checkRefused(t, none, impl.LnByte, 0)
		checkRefused(t, "LIST "+none+" "+none, impl.LnByte, 5)
	}
	for _, x := range []string{"`", "{", "@", "[", "/", ":", "\xe1", "\x80", "\xff", "_", "-", "+", ".", "'", ")"} {
		checkRefused(t, "CREATE "+x, impl.LnByte, 7)
		checkRefused(t, "CREATE ab"+x, impl.LnByte, 9)
		checkRefused(t, "CREATE "+x+"ab", impl.LnByte, 7)
	}
}

func TestCmdReadOfNumbers(t *testing.T) {
	a := []byte("a")
	for s, n := range map[string]int{"0": 0, "1": 1, "9": 9, "10": 10, "100": 100, "999999": 999999, "1000000": 1000000} {
		checkWell(t, "CHANGES a "+s, impl.Cmd{Kind: impl.CmChanges, Box: a, Since: n})
		if n == 0 {
			checkRefused(t, "FETCH a "+s, impl.LnForm, 8)
			checkRefused(t, "STORE a 1 IS () SINCE "+s, impl.LnForm, 22)
			continue
		}
		checkWell(t, "FETCH a "+s, impl.Cmd{Kind: impl.CmFetch, Box: a, Uid: n})
		checkWell(t, "COPY a "+s+" a", impl.Cmd{Kind: impl.CmCopy, Box: a, To: a, Uid: n})
		checkWell(t, "STORE a "+s+" IS () SINCE "+s, impl.Cmd{Kind: impl.CmStore, Box: a, Uid: n, Since: n})
	}
	for _, none := range []string{
		"1000001", "1000010", "2000000", "9999999", "10000000", "00", "01", "010", "001000000", "0000001", "000000000000",
		"2147483648", "4294967296", "4294967297", "9223372036854775807", "9223372036854775808",
		"18446744073709551615", "18446744073709551616", "18446744073709551617", "340282366920938463463374607431768211457",
		strings.Repeat("9", 100), "1" + strings.Repeat("0", 99), strings.Repeat("0", 99) + "1",
		"1e3", "0x10", "1a", "1A",
	} {
		checkRefused(t, "CHANGES a "+none, impl.LnByte, 10)
		checkRefused(t, "FETCH a "+none, impl.LnByte, 8)
		checkRefused(t, none, impl.LnByte, 0)
	}
	for _, sign := range []string{"-1", "+1", "-0", ".5"} {
		checkRefused(t, "CHANGES a "+sign, impl.LnByte, 10)
	}
	checkRefused(t, "CHANGES a 1_0", impl.LnByte, 11)
	checkRefused(t, "CHANGES a 1.0", impl.LnByte, 11)
}

// A word of small letters is a name, or none; one of great letters that is in
// no line can't stand anywhere.
func TestCmdReadOfWords(t *testing.T) {
	for _, line := range []string{"list", "copy a 1 b", "L", "LISTS", "FOO", "FOO a", "OK 0", "BOX a 1 1 1", "SINCE 1", "STORES a 1 IS ()", strings.Repeat("Z", 120)} {
		checkRefused(t, line, impl.LnForm, 0)
	}
	for _, line := range []string{"changes a 1", "List", "LISt", "lIST", "L1ST", "expunge a"} {
		checkRefused(t, line, impl.LnByte, 0)
	}
	checkRefused(t, "STORE a 1 with ()", impl.LnForm, 10)
	checkRefused(t, "STORE a 1 without ()", impl.LnByte, 10)
	checkRefused(t, "STORE a 1 With ()", impl.LnByte, 10)
	checkRefused(t, "STORE a 1 WITHO ()", impl.LnForm, 10)
	checkRefused(t, "STORE a 1 WI TH ()", impl.LnForm, 10)
}

func TestCmdReadOfFlags(t *testing.T) {
	for _, none := range []string{
		"(AS)", "(RS)", "(SFA)", "(SAFRD)", "(DS)", "(RDFAS)", "(SS)", "(AA)", "(RR)", "(SAFDRR)", "(SAFDRS)", "(SAS)",
		"(s)", "(X)", "(SX)", "(1)", "( )", "(S )", "( S)", "(S A)", "(S,A)", "((S))", "(S(", "(\"\")", "(",
	} {
		checkRefused(t, "STORE a 1 IS "+none, impl.LnByte, 13)
		checkRefused(t, "APPEND a "+none+` "x"`, impl.LnByte, 9)
		checkRefused(t, none, impl.LnByte, 0)
	}
	for _, open := range []string{"(", "(S", "(SAFDR", "(R", "(SAFDR "} {
		checkRefused(t, "STORE a 1 IS "+open, impl.LnByte, 13)
		checkRefused(t, `APPEND a `+open+` "x"`, impl.LnByte, 9)
	}
	checkRefused(t, "STORE a 1 IS S)", impl.LnByte, 14)
	checkRefused(t, "STORE a 1 IS )", impl.LnByte, 13)
	checkRefused(t, "STORE a 1 IS ())", impl.LnByte, 15)
	checkRefused(t, "STORE a 1 IS [S]", impl.LnByte, 13)
	checkRefused(t, "STORE a 1 IS ()()", impl.LnForm, 15)
}

func textLine(inner string) string { return `APPEND a () "` + inner + `"` }

func textCmd(text string) impl.Cmd {
	return impl.Cmd{Kind: impl.CmAppend, Box: []byte("a"), Text: []byte(text)}
}

func TestCmdReadOfTexts(t *testing.T) {
	for x := range 256 {
		one := string([]byte{byte(x)})
		if x == 34 {
			// The second one ends the TEXT; the third one begins another.
			checkRefused(t, textLine(one), impl.LnByte, 14)
			checkRefused(t, textLine("a"+one+"b"), impl.LnByte, 16)
		} else if x >= 32 && x <= 126 && x != 92 {
			checkWell(t, textLine(one), textCmd(one))
			checkWell(t, textLine("a"+one+"b"), textCmd("a"+one+"b"))
		} else {
			checkRefused(t, textLine(one), impl.LnByte, 12)
			checkRefused(t, textLine("a"+one+"b"), impl.LnByte, 12)
		}
	}
	checkWell(t, textLine(""), textCmd(""))
	checkWell(t, textLine(`(S) LIST`), textCmd("(S) LIST"))
}

func TestCmdReadOfTextsWithByte92(t *testing.T) {
	for x := range 256 {
		one := string([]byte{byte(x)})
		if x == 34 || x == 92 {
			checkWell(t, textLine(`\`+one), textCmd(one))
			checkWell(t, textLine(`a\`+one+"b"), textCmd("a"+one+"b"))
		} else {
			checkRefused(t, textLine(`\`+one), impl.LnByte, 12)
			checkRefused(t, textLine(`a\`+one+"b"), impl.LnByte, 12)
		}
	}
	checkWell(t, textLine(`\\\"\\`), textCmd(`\"\`))
	checkRefused(t, textLine(`\\\`), impl.LnByte, 12)
}

func TestCmdReadOfTextsWithoutTheirEnd(t *testing.T) {
	for _, open := range []string{`"`, `"x`, `"x `, `"\"`, `"\\\"`, `"\`, `"x\`, `"` + strings.Repeat("x", 30), `"` + strings.Repeat("x", 31)} {
		checkRefused(t, "APPEND a () "+open, impl.LnByte, 12)
		checkRefused(t, open, impl.LnByte, 0)
	}
	checkRefused(t, `APPEND a () x"`, impl.LnByte, 13)
	checkRefused(t, `APPEND a () "x" "`, impl.LnByte, 16)
	checkRefused(t, `APPEND a () 'x'`, impl.LnByte, 12)
}

func TestCmdReadOfTextsAtMaxText(t *testing.T) {
	for _, unit := range []struct{ inner, text string }{{"x", "x"}, {" ", " "}, {`\"`, `"`}, {`\\`, `\`}} {
		checkWell(t, textLine(strings.Repeat(unit.inner, 29)), textCmd(strings.Repeat(unit.text, 29)))
		checkWell(t, textLine(strings.Repeat(unit.inner, 30)), textCmd(strings.Repeat(unit.text, 30)))
		checkRefused(t, textLine(strings.Repeat(unit.inner, 31)), impl.LnByte, 12)
		checkRefused(t, textLine(strings.Repeat(unit.inner, 31))+" ?", impl.LnByte, 12)
	}
	checkWell(t, textLine(strings.Repeat("x", 29)+`\\`), textCmd(strings.Repeat("x", 29)+`\`))
	checkRefused(t, textLine(strings.Repeat("x", 30)+`\\`), impl.LnByte, 12)
	checkRefused(t, textLine(strings.Repeat("x", 106)), impl.LnByte, 12)
	checkRefused(t, textLine(strings.Repeat("x", 107)), impl.LnLong, 0)
}

// What is in no token counts ahead of what can't stand where it does, wherever
// the one and the other are; of several, the first.
func TestAByteThatIsInNoTokenCountsFirst(t *testing.T) {
	for _, x := range []struct {
		line string
		at   int
	}{
		{"? LIST LIST", 0}, {"LIST LIST ?", 10}, {"LIST ? LIST", 5}, {"FOO ?", 4}, {"? FOO", 0}, {"FOO?", 3},
		{"FETCH a 0 01", 10}, {"FETCH 01 0", 6}, {"CREATE A abcdefg", 9}, {"CREATE abcdefg A", 7},
		{"CREATE (AS", 7}, {"CREATE A (AS)", 9}, {`CREATE A "x`, 9}, {"CREATE A \"\x1f\"", 9}, {"CREATE A 1000001", 9},
		{"LIST ? 01", 5}, {"LIST 01 ?", 5}, {"LIST aB (SS)", 5}, {"LIST (SS) aB", 5}, {`LIST "\x" ?`, 5}, {"CREATE ?", 7},
		{"CREATE a ?", 9}, {"\x00", 0}, {"LIST\x00", 4}, {"LIST\n", 4}, {"   \xff", 3}, {"a b c d e f ~", 12},
	} {
		checkRefused(t, x.line, impl.LnByte, x.at)
	}
	checkRefused(t, strings.Repeat("?", 121)+" LIST LIST", impl.LnLong, 0)
}
