package text_test

import (
	"fmt"
	"math"
	"math/rand"
	"regexp"
	"slices"
	"strconv"
	"strings"
	"sync"
	"testing"

	"barbican/api"
	"barbican/ins"
	"barbican/text"
)

var opWords = map[string]api.Op{
	"add": 1, "sub": 2, "mul": 3, "div": 4, "mod": 5, "and": 6, "or": 7, "xor": 8, "shl": 9, "shr": 10, "sar": 11, "mov": 12,
}

var questionWords = map[string]api.Op{
	"jeq": 17, "jne": 18, "jgt": 19, "jge": 20, "jlt": 21, "jle": 22, "jsgt": 23, "jsge": 24, "jslt": 25, "jsle": 26, "jset": 27,
}

// What follows reads texts by the chapter's words alone, with patterns over tokens that one blank parts.

const (
	regPattern    = `(r10|r[0-9])`
	numberPattern = `(0|[1-9][0-9]{0,9})`
	labelPattern  = `([a-z][a-z0-9_]{0,29})`
	secondPattern = `(?:` + regPattern + `|(- )?` + numberPattern + `)`
	cellPattern   = `\[ ` + regPattern + ` ([+-]) ` + numberPattern + ` \]`
	toPattern     = `(?:` + labelPattern + `|([+-]) ` + numberPattern + `)`
)

var (
	tokenLine    = regexp.MustCompile(`^(?:[a-z0-9_]+|[][,+:\t\r -])*$`)
	token        = regexp.MustCompile(`[a-z0-9_]+|[][,+:-]`)
	labelLine    = regexp.MustCompile(`^` + labelPattern + ` :$`)
	opLine       = regexp.MustCompile(`^(add|sub|mul|div|mod|and|or|xor|shl|shr|sar|mov)(32)? ` + regPattern + ` , ` + secondPattern + `$`)
	negLine      = regexp.MustCompile(`^neg(32)? ` + regPattern + `$`)
	loadLine     = regexp.MustCompile(`^load([1248]) ` + regPattern + ` , ` + cellPattern + `$`)
	putLine      = regexp.MustCompile(`^put([1248]) ` + cellPattern + ` , ` + secondPattern + `$`)
	jumpLine     = regexp.MustCompile(`^jump ` + toPattern + `$`)
	questionLine = regexp.MustCompile(`^(jeq|jne|jgt|jge|jlt|jle|jsgt|jsge|jslt|jsle|jset)(32)? ` + regPattern + ` , ` + secondPattern + ` , ` + toPattern + `$`)
	exitLine     = regexp.MustCompile(`^exit$`)
)

func numberByWords(sign, digits string) int {
	n := 0
	for _, d := range digits {
		n = 10*n + int(d-'0')
	}
	if strings.HasPrefix(sign, "-") {
		return -n
	}
	return n
}

func regByWords(s string) int { return numberByWords("", s[1:]) }

func secondByWords(i *api.Ins, m []string) {
	if m[0] != "" {
		i.Src = regByWords(m[0])
	} else {
		i.UseImm, i.Imm = true, numberByWords(m[1], m[2])
	}
}

// insByWords tells the instruction of tokens, and the label that it jumps to.
func insByWords(s string) (i api.Ins, to string, ok bool) {
	if m := opLine.FindStringSubmatch(s); m != nil {
		i = api.Ins{Op: opWords[m[1]], Narrow: m[2] != "", Dst: regByWords(m[3])}
		secondByWords(&i, m[4:])
	} else if m := negLine.FindStringSubmatch(s); m != nil {
		i = api.Ins{Op: 13, Narrow: m[1] != "", Dst: regByWords(m[2])}
	} else if m := loadLine.FindStringSubmatch(s); m != nil {
		i = api.Ins{Op: 14, Size: numberByWords("", m[1]), Dst: regByWords(m[2]), Src: regByWords(m[3]), Off: numberByWords(m[4], m[5])}
	} else if m := putLine.FindStringSubmatch(s); m != nil {
		i = api.Ins{Op: 15, Size: numberByWords("", m[1]), Dst: regByWords(m[2]), Off: numberByWords(m[3], m[4])}
		secondByWords(&i, m[5:])
	} else if m := jumpLine.FindStringSubmatch(s); m != nil {
		i, to = api.Ins{Op: 16, Off: numberByWords(m[2], m[3])}, m[1]
	} else if m := questionLine.FindStringSubmatch(s); m != nil {
		i, to = api.Ins{Op: questionWords[m[1]], Narrow: m[2] != "", Dst: regByWords(m[3]), Off: numberByWords(m[8], m[9])}, m[7]
		secondByWords(&i, m[4:])
	} else if exitLine.MatchString(s) {
		i = api.Ins{Op: 28}
	}
	mostDst := 10
	if i.Op < 15 {
		mostDst = 9
	}
	ok = i.Op != 0 && i.Dst <= mostDst &&
		i.Imm >= math.MinInt32 && i.Imm <= math.MaxInt32 && i.Off >= math.MinInt16 && i.Off <= math.MaxInt16
	return i, to, ok
}

func parseByWords(s string) ([]api.Ins, api.Fault) {
	if len(s) > 1<<18 {
		return nil, api.Fault{Err: api.ErrLong}
	}
	type open struct {
		line, at int
		label    string
	}
	var l []api.Ins
	var opens []open
	places := map[string]int{}
	for n, line := range strings.Split(s, "\n") {
		line, _, _ = strings.Cut(line, "#")
		if !tokenLine.MatchString(line) {
			return nil, api.Fault{Err: api.ErrLine, At: n + 1}
		}
		tokens := strings.Join(token.FindAllString(line, -1), " ")
		if tokens == "" {
			continue
		}
		if m := labelLine.FindStringSubmatch(tokens); m != nil {
			if _, there := places[m[1]]; there {
				return nil, api.Fault{Err: api.ErrLabel, At: n + 1}
			}
			places[m[1]] = len(l)
			continue
		}
		i, to, ok := insByWords(tokens)
		if !ok {
			return nil, api.Fault{Err: api.ErrLine, At: n + 1}
		}
		if len(l) == 4096 {
			return nil, api.Fault{Err: api.ErrLong, At: n + 1}
		}
		if to != "" {
			opens = append(opens, open{n + 1, len(l), to})
		}
		l = append(l, i)
	}
	for _, o := range opens {
		place, there := places[o.label]
		if !there {
			return nil, api.Fault{Err: api.ErrLabel, At: o.line}
		}
		l[o.at].Off = place - o.at - 1
	}
	return l, api.Fault{}
}

func parsed(t *testing.T, s string) []api.Ins {
	t.Helper()
	l, f := text.Parse(s)
	if f != (api.Fault{}) {
		t.Fatalf("%.60q: %v", s, f)
	}
	return l
}

func shown(t *testing.T, l []api.Ins) string {
	t.Helper()
	s, e := text.Show(l)
	if e != api.OK {
		t.Fatalf("%v: %v", l, e)
	}
	return s
}

func lines(l ...string) string { return strings.Join(l, "\n") }

func short(s string) string {
	if len(s) > 200 {
		return s[:200] + ".."
	}
	return s
}

// holds asks that Parse tells what the chapter's words do.
func holds(t *testing.T, s string) {
	t.Helper()
	want, wantFault := parseByWords(s)
	got, fault := text.Parse(s)
	if fault != wantFault || !slices.Equal(got, want) {
		t.Errorf("%q: %v %v, not %v %v", short(s), fault, got, wantFault, want)
	}
}

// P7.1: each word, and what it says.
func TestWords(t *testing.T) {
	for _, x := range []struct {
		line string
		want api.Ins
	}{
		{"add r1, r2", api.Ins{Op: api.Add, Dst: 1, Src: 2}},
		{"sub32 r9, r10", api.Ins{Op: api.Sub, Narrow: true, Dst: 9, Src: 10}},
		{"mul r0, 0", api.Ins{Op: api.Mul, UseImm: true}},
		{"div32 r0, -0", api.Ins{Op: api.Div, Narrow: true, UseImm: true}},
		{"mod r3, 2147483647", api.Ins{Op: api.Mod, Dst: 3, UseImm: true, Imm: 1<<31 - 1}},
		{"and r3, -2147483648", api.Ins{Op: api.And, Dst: 3, UseImm: true, Imm: -1 << 31}},
		{"or r4, r0", api.Ins{Op: api.Or, Dst: 4}},
		{"xor32 r4, r4", api.Ins{Op: api.Xor, Narrow: true, Dst: 4, Src: 4}},
		{"shl r5, 63", api.Ins{Op: api.Shl, Dst: 5, UseImm: true, Imm: 63}},
		{"shr32 r6, 10", api.Ins{Op: api.Shr, Narrow: true, Dst: 6, UseImm: true, Imm: 10}},
		{"sar r7, r8", api.Ins{Op: api.Sar, Dst: 7, Src: 8}},
		{"mov r0, r10", api.Ins{Op: api.Mov, Src: 10}},
		{"neg r8", api.Ins{Op: api.Neg, Dst: 8}},
		{"neg32 r9", api.Ins{Op: api.Neg, Narrow: true, Dst: 9}},
		{"load1 r0, [r10 - 512]", api.Ins{Op: api.Load, Size: 1, Src: 10, Off: -512}},
		{"load2 r3, [r1 + 12]", api.Ins{Op: api.Load, Size: 2, Dst: 3, Src: 1, Off: 12}},
		{"load4 r9, [r0 + 32767]", api.Ins{Op: api.Load, Size: 4, Dst: 9, Off: 32767}},
		{"load8 r1, [r2 - 32768]", api.Ins{Op: api.Load, Size: 8, Dst: 1, Src: 2, Off: -32768}},
		{"put1 [r10 - 1], 255", api.Ins{Op: api.Put, Size: 1, Dst: 10, Off: -1, UseImm: true, Imm: 255}},
		{"put2 [r0 + 0], r10", api.Ins{Op: api.Put, Size: 2, Src: 10}},
		{"put4 [r1 - 0], -7", api.Ins{Op: api.Put, Size: 4, Dst: 1, UseImm: true, Imm: -7}},
		{"put8 [r10 - 8], r3", api.Ins{Op: api.Put, Size: 8, Dst: 10, Off: -8, Src: 3}},
		{"jump +0", api.Ins{Op: api.Jump}},
		{"jump +32767", api.Ins{Op: api.Jump, Off: 32767}},
		{"jump -32768", api.Ins{Op: api.Jump, Off: -32768}},
		{"jeq r10, r0, -1", api.Ins{Op: api.Jeq, Dst: 10, Off: -1}},
		{"jne32 r1, 5, +6", api.Ins{Op: api.Jne, Narrow: true, Dst: 1, UseImm: true, Imm: 5, Off: 6}},
		{"jgt r1, r2, +3", api.Ins{Op: api.Jgt, Dst: 1, Src: 2, Off: 3}},
		{"jge32 r2, r1, +3", api.Ins{Op: api.Jge, Narrow: true, Dst: 2, Src: 1, Off: 3}},
		{"jlt r3, -1, +32767", api.Ins{Op: api.Jlt, Dst: 3, UseImm: true, Imm: -1, Off: 32767}},
		{"jle r3, 1, -32768", api.Ins{Op: api.Jle, Dst: 3, UseImm: true, Imm: 1, Off: -32768}},
		{"jsgt r4, 0, -0", api.Ins{Op: api.Jsgt, Dst: 4, UseImm: true}},
		{"jsge32 r5, r6, +1", api.Ins{Op: api.Jsge, Narrow: true, Dst: 5, Src: 6, Off: 1}},
		{"jslt r7, r7, +1", api.Ins{Op: api.Jslt, Dst: 7, Src: 7, Off: 1}},
		{"jsle32 r8, -2147483648, +1", api.Ins{Op: api.Jsle, Narrow: true, Dst: 8, UseImm: true, Imm: -1 << 31, Off: 1}},
		{"jset r9, 2147483647, +1", api.Ins{Op: api.Jset, Dst: 9, UseImm: true, Imm: 1<<31 - 1, Off: 1}},
		{"exit", api.Ins{Op: api.Exit}},
	} {
		if l := parsed(t, x.line); !slices.Equal(l, []api.Ins{x.want}) {
			t.Errorf("%s: %v", x.line, l)
		}
	}
}

// P7.1: every word there is, wide and narrow, and no other one.
func TestAllWords(t *testing.T) {
	var wide, rest []string
	for w := range opWords {
		wide, rest = append(wide, w), append(rest, " r1, r2")
	}
	for w := range questionWords {
		wide, rest = append(wide, w), append(rest, " r1, r2, +3")
	}
	wide, rest = append(wide, "neg"), append(rest, " r1")
	for _, tail := range []string{"", "32", "3", "2", "64", "16", "_32", "32_", "3232", "032"} {
		for k, w := range wide {
			holds(t, w+tail+rest[k])
			holds(t, w+" "+tail+rest[k])
		}
		for _, s := range []string{"jump" + tail + " +1", "exit" + tail, tail} {
			holds(t, s)
		}
	}
	for size := range 20 {
		holds(t, fmt.Sprintf("load%d r1, [r2 + 3]", size))
		holds(t, fmt.Sprintf("put%d [r2 + 3], r1", size))
		holds(t, fmt.Sprintf("load %d r1, [r2 + 3]", size))
		holds(t, fmt.Sprintf("load%d32 r1, [r2 + 3]", size))
		holds(t, fmt.Sprintf("put32%d [r2 + 3], r1", size))
	}
}

// P7.1: blanks, remarks, lines that say nothing.
func TestTokens(t *testing.T) {
	exit := []api.Ins{{Op: api.Exit}}
	for _, s := range []string{
		"exit", " exit", "exit ", "\texit\r", "\r\n\nexit", "exit\n\n\n", "exit#", "exit # \x00\xff=EXIT", "#\nexit\n#", "# exit\nexit", "exit ## # exit",
	} {
		if l := parsed(t, s); !slices.Equal(l, exit) {
			t.Errorf("%q: %v", s, l)
		}
	}
	for _, s := range []string{"", "\n", " \t\r", "#", "#=\n#=", "a:", "a : # b:", "a:\nb:\n"} {
		if l := parsed(t, s); len(l) != 0 {
			t.Errorf("%q: %v", s, l)
		}
	}
	put := []api.Ins{{Op: api.Put, Size: 2, Dst: 1, Off: -3, UseImm: true, Imm: -4}}
	for _, s := range []string{"put2[r1-3],-4", "put2 [ r1 - 3 ] , - 4", "\tput2\t[\tr1\r-\r3\t] , -\t4 "} {
		if l := parsed(t, s); !slices.Equal(l, put) {
			t.Errorf("%q: %v", s, l)
		}
	}
	for _, s := range []string{"ex it", "exit;", "exit\x00", "exit\v", "exit\f", "exit\u00a0", "exit\u2003", "exi\xc0t", "Exit", "exit exit", "mov r 0, 1", "mov r0, 1 0", "mov r0, 1_0"} {
		if l, f := text.Parse(s); f != (api.Fault{Err: api.ErrLine, At: 1}) || l != nil {
			t.Errorf("%q: %v, %v", s, f, l)
		}
	}
	// No other byte is a blank, or goes by.
	for b := range 256 {
		holds(t, "exit"+string([]byte{byte(b)}))
		holds(t, string([]byte{byte(b)})+"exit")
		holds(t, "mov r0"+string([]byte{byte(b)})+", 7")
		holds(t, "jump "+string([]byte{byte(b)})+"1")
		holds(t, string([]byte{byte(b)}))
	}
}

// P7.1: a line that lacks a token, or has one too many, or another one, says nothing.
func TestLinesThatAreNone(t *testing.T) {
	pieces := []string{"r0", "r9", "r10", "r11", "a", "0", "1", "07", ",", "[", "]", "+", "-", ":", "exit", "="}
	for _, whole := range []string{
		"add r1 , r2", "mov32 r1 , - 5", "neg r1", "load2 r3 , [ r1 + 12 ]", "put8 [ r10 - 8 ] , r3", "put1 [ r10 - 8 ] , - 3",
		"jump a", "jump + 5", "jeq r1 , r2 , a", "jset32 r1 , - 5 , - 6", "exit", "a :",
	} {
		tokens := strings.Fields(whole)
		for at := range len(tokens) + 1 {
			if at < len(tokens) {
				holds(t, "a:\n"+strings.Join(slices.Delete(slices.Clone(tokens), at, at+1), " "))
			}
			for _, p := range pieces {
				holds(t, "exit\n"+strings.Join(slices.Insert(slices.Clone(tokens), at, p), " "))
				if at < len(tokens) {
					other := slices.Clone(tokens)
					other[at] = p
					holds(t, strings.Join(other, " ")+"\na:\n")
				}
			}
		}
	}
}

// P7.1: the ends of what numbers, registers and labels may be.
func TestEdges(t *testing.T) {
	letters := strings.Repeat("z", 31)
	for _, s := range []string{
		"mov r1, 2147483647", "mov r1, 4294967295", "mov r1, 9999999999", "mov r1, 99999999999", "mov r1, 18446744073709551616",
		"mov r1, 0", "mov r1, 00", "mov r1, 01", "mov r1, 0000000000", "mov r1, 00000000001", "mov r1, -01", "mov r1, 0_", "mov r1, 0x1", "mov r1, 1e1", "mov r1, _1",
		"mov r1, --1", "mov r1, -", "mov r1, +1", "mov r1, -r1", "mov r1, a",
		"jump +32767", "jump +32768", "jump -32768", "jump -32769", "jump +032", "jump --1", "jump +-1", "jump 1", "jump", "jump +", "jump -a",
		"load1 r1, [r2 + 32767]", "load1 r1, [r2 + 32768]", "load1 r1, [r2 - 32768]", "load1 r1, [r2 - 32769]", "load1 r1, [r2]", "load1 r1, [r2 3]", "load1 r1, [r2 + a]", "load1 r1, [r2 + -3]", "load1 r1, r2 + 3",
		"put1 [r1 + 0], 2147483648", "put1 [r1 + 0], -2147483648", "put1 [r1 + 0], -2147483649", "put1 [r1 + 70000], 1",
		"jeq r1, 2147483648, +1", "jeq r1, -2147483648, +1", "jeq r1, -2147483649, +1", "jeq r1, 1, +32768", "jeq r1, 1, 5", "jeq r1, 1",
		"mov r00, 1", "mov r01, 1", "mov r10, 1", "mov32 r10, r1", "mov r100, 1", "mov r, 1", "mov R1, 1", "mov 1, 1", "mov r1, r11", "neg r10", "neg32 r10", "load8 r10, [r1 + 0]", "put8 [r10 + 0], r10", "put8 [r11 + 0], 1", "jeq r10, r10, +1", "jeq r11, r1, +1",
		letters[:30] + ":", letters + ":", "a:", "_a:", "1a:", "a_1:", "0:", ":", "::", "a::", "a: b:", "a b:", ": a",
		"jump " + letters[:30] + "\n" + letters[:30] + ":", "jump " + letters, "jump _a\na:", "jump 1a",
		"jeq r1, r2, " + letters[:30] + "\n" + letters[:30] + ":", "jeq r1, r2, " + letters,
	} {
		holds(t, s)
		holds(t, "\n"+s)
	}
	// Said once more by hand, so that no bound is wrong on both sides.
	for s, want := range map[string]bool{
		"mov r1, 2147483647": true, "mov r1, 2147483648": false, "mov r1, -2147483648": true, "mov r1, -2147483649": false,
		"jump +32767": true, "jump +32768": false, "jump -32768": true, "jump -32769": false,
		"mov r9, 0": true, "mov r10, 0": false, "put1 [r10 + 0], r10": true, "jset r10, r10, +0": true,
		letters[:30] + ":": true, letters + ":": false,
	} {
		if _, f := text.Parse(s); (f == api.Fault{}) != want {
			t.Errorf("%s: %v", s, f)
		}
	}
}

// P7.1: labels stand at places, ahead of a jump and behind it; words of the language may be labels.
func TestLabels(t *testing.T) {
	for _, x := range []struct {
		s    string
		offs []int
	}{
		{"jump a\na:", []int{0}},
		{"a:\njump a", []int{-1}},
		{"a: # here\n\n\nb:\njump a\njump b\nexit\njump c\n\nexit\nc:", []int{-1, -2, 0, 1, 0}},
		{"jeq r1, r2, end\njne32 r1, 5, end\nexit\nend:\nexit", []int{2, 1, 0, 0}},
		{"jump exit\nexit\nexit:\nexit", []int{1, 0, 0}},
		{"jump r0\njump mov\njump jump\nr0:\nmov:\njump:\nneg:", []int{2, 1, 0}},
		{"jeq r1, 2, r3\nexit\nr3:", []int{1, 0}},
		{"jump load\njump load2\nload:\nexit\nload2 :\nexit", []int{1, 1, 0, 0}},
		{"jump a\njump aa\naa:\nexit\na:\n", []int{2, 0, 0}},
	} {
		l := parsed(t, x.s)
		var offs []int
		for _, i := range l {
			offs = append(offs, i.Off)
		}
		if !slices.Equal(offs, x.offs) {
			t.Errorf("%q: %v", x.s, offs)
		}
		holds(t, x.s)
	}
	// The furthest there are.
	l := parsed(t, "a:\njump b\n"+strings.Repeat("exit\n", 4094)+"jump a\nb:\n")
	if len(l) != 4096 || l[0].Off != 4095 || l[4095].Off != -4096 {
		t.Errorf("%d, %v, %v", len(l), l[0], l[len(l)-1])
	}
}

// P7.1: which fault is told, where several are.
func TestFirstFault(t *testing.T) {
	line, label, long := api.ErrLine, api.ErrLabel, api.ErrLong
	exits := strings.Repeat("exit\n", 4096)
	for _, x := range []struct {
		s    string
		want api.Fault
	}{
		{"add r10, 1", api.Fault{Err: line, At: 1}},
		{"jump here", api.Fault{Err: label, At: 1}},
		{"exit\n#\n\njump here", api.Fault{Err: label, At: 4}},
		{"jeq r1, 2, here\njump there", api.Fault{Err: label, At: 1}},
		{"jump a\njump b\nexit\na:", api.Fault{Err: label, At: 2}},
		{"jump a\njump b\nb:", api.Fault{Err: label, At: 1}},
		{"a:\nexit\na:", api.Fault{Err: label, At: 3}},
		{"a:\na :\na:\n=", api.Fault{Err: label, At: 2}},
		{"a:\n=\na:", api.Fault{Err: line, At: 2}},
		{"jump here\n=", api.Fault{Err: line, At: 2}},
		{"jump here\na:\na:", api.Fault{Err: label, At: 3}},
		{"jump here\nneg r10\na:\na:", api.Fault{Err: line, At: 2}},
		{"\n\n\n!", api.Fault{Err: line, At: 4}},
		{"\r\r\r!\n", api.Fault{Err: line, At: 1}},
		{exits + "exit", api.Fault{Err: long, At: 4097}},
		{"\n" + exits + "#\nneg r1\n=", api.Fault{Err: long, At: 4099}},
		{exits + "neg r10", api.Fault{Err: line, At: 4097}},
		{exits + "jump a", api.Fault{Err: long, At: 4097}},
		{"jump a\n" + exits, api.Fault{Err: long, At: 4097}},
		{exits + "a:\na:\nexit", api.Fault{Err: label, At: 4098}},
		{exits + "=\nexit", api.Fault{Err: line, At: 4097}},
		{"=\n" + exits + exits, api.Fault{Err: line, At: 1}},
		{"=" + strings.Repeat("\n", 1<<18-1), api.Fault{Err: line, At: 1}},
		{"=" + strings.Repeat("\n", 1<<18), api.Fault{Err: long}},
		{strings.Repeat("\n", 1<<18-1) + "=", api.Fault{Err: line, At: 1 << 18}},
		{strings.Repeat("#", 1<<18+1), api.Fault{Err: long}},
		{strings.Repeat("exit\n", 1<<16), api.Fault{Err: long}},
		{strings.Repeat(",", 1<<18), api.Fault{Err: line, At: 1}},
		{strings.Repeat("a", 1<<18), api.Fault{Err: line, At: 1}},
		{"mov r1, " + strings.Repeat("1", 1<<17), api.Fault{Err: line, At: 1}},
	} {
		if l, f := text.Parse(x.s); f != x.want || l != nil {
			t.Errorf("%.40q: %v, not %v, %d instructions", x.s, f, x.want, len(l))
		}
		holds(t, x.s)
	}
	for _, s := range []string{exits, exits + "a:\n# exit", "#" + strings.Repeat("=", 1<<18-1), strings.Repeat(" ", 1<<18-4) + "exit"} {
		parsed(t, s)
	}
}

// P7.2: each Op's line.
func TestShow(t *testing.T) {
	for _, x := range []struct {
		i    api.Ins
		want string
	}{
		{api.Ins{Op: api.Add, Dst: 1, Src: 10}, "add r1, r10\n"},
		{api.Ins{Op: api.Sub, Narrow: true, UseImm: true}, "sub32 r0, 0\n"},
		{api.Ins{Op: api.Mul, Dst: 9, UseImm: true, Imm: -1}, "mul r9, -1\n"},
		{api.Ins{Op: api.Div, Dst: 2, Src: 3}, "div r2, r3\n"},
		{api.Ins{Op: api.Mod, Narrow: true, Dst: 2, Src: 3}, "mod32 r2, r3\n"},
		{api.Ins{Op: api.And, UseImm: true, Imm: 1<<31 - 1}, "and r0, 2147483647\n"},
		{api.Ins{Op: api.Or}, "or r0, r0\n"},
		{api.Ins{Op: api.Xor, UseImm: true, Imm: -1 << 31}, "xor r0, -2147483648\n"},
		{api.Ins{Op: api.Shl, UseImm: true, Imm: 63}, "shl r0, 63\n"},
		{api.Ins{Op: api.Shr, Narrow: true, UseImm: true, Imm: 10}, "shr32 r0, 10\n"},
		{api.Ins{Op: api.Sar, Src: 4}, "sar r0, r4\n"},
		{api.Ins{Op: api.Mov, Src: 5}, "mov r0, r5\n"},
		{api.Ins{Op: api.Neg, Dst: 6}, "neg r6\n"},
		{api.Ins{Op: api.Neg, Narrow: true, Dst: 9}, "neg32 r9\n"},
		{api.Ins{Op: api.Load, Size: 1, Dst: 7, Src: 8}, "load1 r7, [r8 + 0]\n"},
		{api.Ins{Op: api.Load, Size: 2, Off: 32767}, "load2 r0, [r0 + 32767]\n"},
		{api.Ins{Op: api.Load, Size: 4, Src: 10, Off: -32768}, "load4 r0, [r10 - 32768]\n"},
		{api.Ins{Op: api.Load, Size: 8, Off: -1}, "load8 r0, [r0 - 1]\n"},
		{api.Ins{Op: api.Put, Size: 1, Dst: 10, Off: -8, Src: 3}, "put1 [r10 - 8], r3\n"},
		{api.Ins{Op: api.Put, Size: 2, Dst: 1, UseImm: true, Imm: -3}, "put2 [r1 + 0], -3\n"},
		{api.Ins{Op: api.Put, Size: 4, Off: 1}, "put4 [r0 + 1], r0\n"},
		{api.Ins{Op: api.Put, Size: 8, Off: -1, UseImm: true}, "put8 [r0 - 1], 0\n"},
		{api.Ins{Op: api.Jump}, "jump +0\n"},
		{api.Ins{Op: api.Jump, Off: -1}, "jump -1\n"},
		{api.Ins{Op: api.Jump, Off: 32767}, "jump +32767\n"},
		{api.Ins{Op: api.Jump, Off: -32768}, "jump -32768\n"},
		{api.Ins{Op: api.Jeq, Narrow: true, Dst: 2, UseImm: true, Imm: -5, Off: 2}, "jeq32 r2, -5, +2\n"},
		{api.Ins{Op: api.Jne, Dst: 10, Src: 1}, "jne r10, r1, +0\n"},
		{api.Ins{Op: api.Jgt, Off: -7}, "jgt r0, r0, -7\n"},
		{api.Ins{Op: api.Jge, Off: 1}, "jge r0, r0, +1\n"},
		{api.Ins{Op: api.Jlt, Off: 1}, "jlt r0, r0, +1\n"},
		{api.Ins{Op: api.Jle, Off: 1}, "jle r0, r0, +1\n"},
		{api.Ins{Op: api.Jsgt, Off: 1}, "jsgt r0, r0, +1\n"},
		{api.Ins{Op: api.Jsge, Off: 1}, "jsge r0, r0, +1\n"},
		{api.Ins{Op: api.Jslt, Off: 1}, "jslt r0, r0, +1\n"},
		{api.Ins{Op: api.Jsle, Off: 1}, "jsle r0, r0, +1\n"},
		{api.Ins{Op: api.Jset, Narrow: true, UseImm: true, Imm: 1, Off: -32768}, "jset32 r0, 1, -32768\n"},
		{api.Ins{Op: api.Exit}, "exit\n"},
	} {
		if s := shown(t, []api.Ins{x.i}); s != x.want {
			t.Errorf("%v: %q", x.i, s)
		}
		if s := shown(t, []api.Ins{x.i, {Op: api.Exit}, x.i}); s != x.want+"exit\n"+x.want {
			t.Errorf("%v: %q", x.i, s)
		}
	}
	for _, l := range [][]api.Ins{nil, {}} {
		if s := shown(t, l); s != "" {
			t.Errorf("%q", s)
		}
	}
}

// P7.2: what can't be shown.
func TestShowWrong(t *testing.T) {
	exit := api.Ins{Op: api.Exit}
	for _, i := range []api.Ins{
		{}, {Op: 29}, {Op: 255}, {Op: api.Exit, Imm: 1}, {Op: api.Add, Dst: 10}, {Op: api.Add, Dst: -1}, {Op: api.Add, Src: 11}, {Op: api.Add, Imm: 1},
		{Op: api.Mov, UseImm: true, Imm: 1 << 31}, {Op: api.Mov, UseImm: true, Src: 1}, {Op: api.Neg, Src: 1}, {Op: api.Load}, {Op: api.Load, Size: 3}, {Op: api.Load, Size: 1, Narrow: true},
		{Op: api.Put, Size: 16}, {Op: api.Put, Size: 1, Off: 1 << 15}, {Op: api.Put, Size: 1, Dst: 11}, {Op: api.Jump, Off: -1<<15 - 1}, {Op: api.Jump, Narrow: true}, {Op: api.Jeq, Dst: 11},
		{Op: api.Jeq, Dst: math.MinInt}, {Op: api.Jeq, Src: math.MaxInt}, {Op: api.Jeq, Size: 8}, {Op: api.Jeq, UseImm: true, Imm: math.MinInt},
	} {
		for _, l := range [][]api.Ins{{i}, {i, exit}, {exit, exit, i}} {
			if s, e := text.Show(l); e != api.ErrShape || s != "" {
				t.Errorf("%v: %v, %q", l, e, s)
			}
		}
	}
	most := slices.Repeat([]api.Ins{exit}, 4097)
	if s, e := text.Show(most); e != api.ErrLong || s != "" {
		t.Errorf("%v, %d bytes", e, len(s))
	}
	if s := shown(t, most[:4096]); s != strings.Repeat("exit\n", 4096) {
		t.Errorf("%d bytes", len(s))
	}
	most[0] = api.Ins{}
	if _, e := text.Show(most); e != api.ErrLong {
		t.Errorf("%v", e)
	}
	if _, e := text.Show(most[:4096]); e != api.ErrShape {
		t.Errorf("%v", e)
	}
}

// all are right instructions of every kind, with edges of all fields.
func all() []api.Ins {
	var l []api.Ins
	offs := []int{-32768, -10, -1, 0, 1, 9, 32767}
	for op := range 32 {
		for bits := range 1 << 4 {
			for _, off := range offs {
				for _, imm := range []int{-1 << 31, -1, 0, 1, 1<<31 - 1} {
					for _, reg := range []int{0, 1, 9, 10} {
						i := api.Ins{Op: api.Op(op), Narrow: bits&1 != 0, UseImm: bits&2 != 0, Dst: reg, Off: off, Imm: imm}
						if bits&2 == 0 {
							i.Imm, i.Src = 0, 10-reg
						}
						if op == 14 || op == 15 {
							i.Size = 1 << (bits >> 2)
						}
						if ins.Right(i) {
							l = append(l, i)
						}
					}
				}
			}
		}
	}
	for _, off := range offs {
		l = append(l, api.Ins{Op: api.Jump, Off: off})
	}
	return append(l, api.Ins{Op: api.Neg, Dst: 9}, api.Ins{Op: api.Neg, Narrow: true, Dst: 3}, api.Ins{Op: api.Exit})
}

// P7.3: what is shown is parsed as it was.
func TestThereAndBack(t *testing.T) {
	kinds := map[api.Op]bool{}
	for l := range slices.Chunk(all(), 4096) {
		for _, i := range l {
			kinds[i.Op] = true
		}
		s := shown(t, l)
		if got := parsed(t, s); !slices.Equal(got, l) {
			t.Fatalf("%q", short(s))
		}
	}
	if len(kinds) != 28 {
		t.Errorf("%d kinds", len(kinds))
	}
	// The longest that is shown is not too long to be parsed.
	longest := slices.Repeat([]api.Ins{{Op: api.Jsge, Narrow: true, Dst: 10, UseImm: true, Imm: -1 << 31, Off: -32768}}, 4096)
	if got := parsed(t, shown(t, longest)); !slices.Equal(got, longest) {
		t.Errorf("%d instructions", len(got))
	}
}

// randomLine is mostly one of the language, with few labels, so that they meet.
func randomLine(r *rand.Rand) string {
	pick := func(l ...string) string { return l[r.Intn(len(l))] }
	number := func() string {
		return pick("0", "1", "7", "255", "32767", "32768", strconv.Itoa(r.Intn(1<<15)), "2147483647", "2147483648", strconv.Itoa(r.Intn(1<<31)))
	}
	small := func() string { return pick("0", "1", "9", strconv.Itoa(r.Intn(1<<15)), "32768") }
	reg := func() string { return "r" + strconv.Itoa(r.Intn(10)) }
	label := func() string { return pick("a", "b", "c", "exit", "r1", "x_9") }
	second := func() string { return pick(reg(), number(), "-"+number()) }
	cell := func() string { return "[" + reg() + pick("+", " - ", " +", "- ") + small() + "]" }
	to := func() string { return pick(label(), label(), "+"+small(), "- "+small()) }
	thin := pick("", "", "32")
	switch r.Intn(12) {
	case 0, 1, 2:
		return pick("add", "sub", "mul", "div", "mod", "and", "or", "xor", "shl", "shr", "sar", "mov") + thin + " " + reg() + "," + second()
	case 3:
		return "neg" + thin + "\t" + reg()
	case 4, 5:
		return "load" + pick("1", "2", "4", "8") + " " + reg() + " , " + cell()
	case 6:
		return "put" + pick("1", "2", "4", "8") + cell() + "," + second()
	case 7:
		return "jump " + to()
	case 8:
		return pick("jeq", "jne", "jgt", "jge", "jlt", "jle", "jsgt", "jsge", "jslt", "jsle", "jset") + thin + " " + reg() + ", " + second() + ", " + to()
	case 9:
		return pick("", "  ", "# exit", "\r", label()+":")
	case 10:
		return label() + pick(":", " :")
	}
	return "exit"
}

// changed is s with one byte left out, put in or put in another one's place.
func changed(r *rand.Rand, s string) string {
	bytes := "abejmortux0123489_,[]+-:# \t\r\n=\x00\xff"
	at := r.Intn(len(s) + 1)
	b := string(bytes[r.Intn(len(bytes))])
	if at < len(s) && r.Intn(3) > 0 {
		if r.Intn(2) == 0 {
			b = ""
		}
		return s[:at] + b + s[at+1:]
	}
	return s[:at] + b + s[at:]
}

// P7.1, P7.3: texts made by chance are parsed as the chapter's words say, and shown so that they are the same.
func TestRandom(t *testing.T) {
	r := rand.New(rand.NewSource(7))
	whole := 0
	for range 20000 {
		var l []string
		for range r.Intn(7) {
			l = append(l, randomLine(r))
		}
		s := strings.Join(l, "\n")
		for range r.Intn(3) {
			s = changed(r, s)
		}
		holds(t, s)
		if t.Failed() {
			return
		}
		got, f := text.Parse(s)
		if f.Err != api.OK {
			continue
		}
		whole++
		if again := parsed(t, shown(t, got)); !slices.Equal(again, got) {
			t.Fatalf("%q: %v, then %v", s, got, again)
		}
	}
	if whole < 3000 {
		t.Errorf("%d of the texts have no fault", whole)
	}
}

// R3, R4: an answer is new each time, and no argument is changed; calls beside one another don't meet.
func TestAnswersAreNew(t *testing.T) {
	s := "a:\nmov r1, 7\njeq r1, 7, a\nexit"
	first, second := parsed(t, s), parsed(t, s)
	first[0].Imm, first[1].Off = 9, 9
	if second[0].Imm != 7 || second[1].Off != -2 || parsed(t, s)[0].Imm != 7 {
		t.Errorf("%v", second)
	}
	kept := slices.Clone(second)
	if shown(t, second) != shown(t, second) || !slices.Equal(second, kept) {
		t.Errorf("%v", second)
	}
	var workers sync.WaitGroup
	for n := range 8 {
		workers.Add(1)
		go func() {
			defer workers.Done()
			for k := range 50 {
				s := fmt.Sprintf("mov r%d, %d\njump l%d\nl%d:\n", n, k, n, n)
				want := fmt.Sprintf("mov r%d, %d\njump +0\n", n, k)
				l, f := text.Parse(s)
				if got, e := text.Show(l); f.Err != api.OK || e != api.OK || got != want {
					t.Errorf("%q: %v, %v, %q", s, f, e, got)
				}
			}
		}()
	}
	workers.Wait()
}

// The chapter's example.
func TestExample(t *testing.T) {
	l := parsed(t, lines("mov r0, 1", "jeq32 r2, -5, end", "load2 r3, [r1 + 12]", "put8 [r10 - 8], r3", "end:", "exit"))
	if len(l) != 5 || l[1].Off != 2 {
		t.Errorf("%v", l)
	}
	if s := strings.Split(shown(t, l), "\n"); s[1] != "jeq32 r2, -5, +2" {
		t.Errorf("%q", s)
	}
}
