package console_test

import (
	"strings"
	"testing"

	"soundpost/api"
	"soundpost/console"
	"soundpost/fixtures"
)

func play(t *testing.T, l ...string) []string {
	t.Helper()
	out, line, e := console.Play(strings.Join(l, "\n"))
	if e != api.OK || line != 0 {
		t.Fatal(line, e)
	}
	return strings.Split(strings.TrimSuffix(out, "\n"), "\n")
}

// expect compares what a script leads to with lines.
func expect(t *testing.T, got []string, want ...string) {
	t.Helper()
	if strings.Join(got, "\n") != strings.Join(want, "\n") {
		t.Errorf("got\n%s\nwant\n%s", strings.Join(got, "\n"), strings.Join(want, "\n"))
	}
}

func TestParse(t *testing.T) {
	src := "# a comment\n\n  play  5   -1 \nop 3 proc  processor p  latency 0 \nop 0 place 1 2 3 4 5\nplan\n #x\nbounce 1 2 3\n"
	l, line, e := console.Parse(src)
	want := []api.Command{{Kind: api.PlayW, A: 5, B: -1}, {Kind: api.OpW, A: 3, Text: "proc processor p  latency 0"}, {Kind: api.OpW, Text: "place 1 2 3 4 5"}, {Kind: api.PlanW}, {Kind: api.BounceW, A: 1, B: 2, C: 3}}
	if e != api.OK || line != 0 || len(l) != len(want) {
		t.Fatal(l, line, e)
	}
	for i := range l {
		if l[i] != want[i] {
			t.Error(i, l[i])
		}
	}
	text, e := console.Say(l)
	if e != api.OK || text != "play 5 -1\nop 3 proc processor p  latency 0\nop 0 place 1 2 3 4 5\nplan\nbounce 1 2 3\n" {
		t.Error(text, e)
	}
	for i, x := range []struct {
		src  string
		line int
		e    api.Errno
	}{
		{"", 0, api.OK}, {"play 05 1", 1, api.ErrCommand}, {"\n\nplan 1\n", 3, api.ErrCommand}, {"play 1", 1, api.ErrCommand}, {"play 1 -0", 1, api.ErrCommand}, {"play 1 +1", 1, api.ErrCommand}, {"play 1 1099511627776", 0, api.OK}, {"play 1 1099511627777", 1, api.ErrCommand}, {"play -1099511627776 0", 0, api.OK}, {"Plan", 1, api.ErrCommand}, {"plan\r", 1, api.ErrCommand}, {"plan\n\tplan", 2, api.ErrCommand},
		{"op 0", 1, api.ErrCommand}, {"op proc x", 1, api.ErrCommand}, {"op 0 proc", 1, api.ErrCommand}, {"op 0 proc  ", 1, api.ErrCommand}, {"op 0 proc #", 0, api.OK}, {"op 0 node 1", 1, api.ErrCommand}, {"op 0 node 1 2 3", 1, api.ErrCommand}, {"op 0 node 1 02", 1, api.ErrCommand}, {"op 0 place 1 2 3", 1, api.ErrCommand}, {"op 0 place 1 2 3" + strings.Repeat(" 4", 64), 0, api.OK}, {"op 0 place 1 2 3" + strings.Repeat(" 4", 65), 1, api.ErrCommand}, {"op 0 undo 1 2", 1, api.ErrCommand},
		{"op 0 knot 1 2 3 4 5 6\nop 0 unknot 1 2\nop 0 bind 1 2 3 4\nop 0 unplace 1 2\nop 0 tempo 1 2 3 4\nop 0 param 1\nop 0 drop 1\nop 0 route 1 2 3 4\nop 0 cut 1 2 3\nundo 1 2\nmeter 1 2\naudit 1 2\nbranch\nback\nasof 1\nreport\nsave\ncrash 1", 0, api.OK}, {strings.Repeat(" ", 65536), 0, api.OK}, {strings.Repeat("x", 65537), 0, api.ErrLimit},
	} {
		l, line, e := console.Parse(x.src)
		out, line2, e2 := console.Play(x.src)
		if e != x.e || line != x.line || e != api.OK && (l != nil || out != "" || e2 != e || line2 != line) {
			t.Error(i, line, e, line2, e2)
		}
	}
	for i, c := range []api.Command{
		{}, {Kind: 14}, {Kind: -1}, {Kind: api.PlanW, A: 1}, {Kind: api.PlayW, D: 1}, {Kind: api.PlayW, C: 1}, {Kind: api.PlayW, A: 1<<40 + 1}, {Kind: api.PlanW, Text: "x"}, {Kind: api.OpW}, {Kind: api.OpW, Text: "node 1"}, {Kind: api.OpW, Text: "node 1  2"}, {Kind: api.OpW, Text: " node 1 2"}, {Kind: api.OpW, Text: "node 1 2 "}, {Kind: api.OpW, Text: "proc a\nb"}, {Kind: api.OpW, Text: "proc a "}, {Kind: api.OpW, Text: "proc  a"}, {Kind: api.OpW, B: 1, Text: "node 1 2"},
	} {
		if s, e := console.Say([]api.Command{{Kind: api.PlanW}, c}); e != api.ErrCommand || s != "" {
			t.Error(i, s, e)
		}
	}
}

// song is a script that builds a track 3, a processor 4, an output 5 and a gain 6.
var song = []string{
	"op 0 tempo 0 1 1 0", "op 0 proc processor p latency 1 tail 0 { out in(1); }", "op 0 node 1 0", "op 0 node 2 0", "op 0 node 4 0", "op 0 param 32768",
	"op 0 route 3 4 0 0", "op 0 route 4 5 0 0", "op 0 place 3 0 0 100 200 -300 5120 512 0 0 0", "op 0 bind 0 6 4 5",
}

func TestExamples(t *testing.T) {
	expect(t, play(t, "report"), "report", "  ok", "  kept 0 0", "  tempo 0 1000 48 0")
	expect(t, play(t, "back"), "back", "  error 1")
	expect(t, play(t, "op 0 node 4 0"), "op 0 node 4 0", "  ok", "  op 0 0 1", "  refused 0")
	expect(t, play(t, "plan"), "plan", "  ok", "  memory 0", "  at", "  delay")
}

func TestSong(t *testing.T) {
	built := play(t, song...)
	tail := func(l ...string) []string { return play(t, append(song[:len(song):len(song)], l...)...)[len(built):] }
	expect(t, built[len(built)-4:], "op 0 bind 0 6 4 5", "  ok", "  op 0 9 10", "  refused 0")
	expect(t, tail("play 0 5"), "play 0 5", "  ok", "  out 100 -150 2560 256 0")
	expect(t, tail("plan"), "plan", "  ok", "  memory 0", "  at 0 0 1", "  delay 0 0")
	expect(t, tail("meter 0 8"), "meter 0 8", "  ok", "  meter 2560 102 1")
	expect(t, tail("meter 0 3"), "meter 0 3", "  ok", "  meter 2560 0 0")
	expect(t, tail("play 0 257", "play -1 5", "meter 0 257", "audit 0 0", "bounce 257 0 1", "bounce 0 257 1", "bounce 0 1 0", "asof -1", "crash -1", "undo 0 99", "undo 1 0", "op 16 node 1 0"),
		"play 0 257", "  error 2", "play -1 5", "  error 1", "meter 0 257", "  error 2", "audit 0 0", "  error 251", "bounce 257 0 1", "  error 2", "bounce 0 257 1", "  error 2", "bounce 0 1 0", "  error 1", "asof -1", "  error 560", "crash -1", "  error 1", "undo 0 99", "  error 470", "undo 1 0", "  error 470", "op 16 node 1 0", "  error 450")
	expect(t, tail("undo 0 9", "play 0 3"), "undo 0 9", "  ok", "  op 0 10 11", "  refused 0", "play 0 3", "  ok", "  out 200 -300 5120")
	expect(t, tail("undo 0 2", "op 1 route 3 4 0 0"), "undo 0 2", "  ok", "  op 0 10 11", "  refused 2", "op 1 route 3 4 0 0", "  ok", "  op 1 0 12", "  refused 3")
	expect(t, tail("op 0 place 3 0 0 2147483648"), "op 0 place 3 0 0 2147483648", "  error 250")
	got := tail("bounce 1 6 4", "audit 0 0", "audit 17 3", "audit 23 255", "audit 24 1", "audit 99 0", "audit 0 256", "op 0 drop 3", "audit 0 0")
	expect(t, got[:3], "bounce 1 6 4", "  ok", "  file 24 2")
	expect(t, got[4:len(got)-3], "audit 0 0", "  ok", "  audit 1 -1", "audit 17 3", "  ok", "  audit 0 1", "audit 23 255", "  ok", "  audit 0 1", "audit 24 1", "  error 1", "audit 99 0", "  ok", "  audit 1 -1", "audit 0 256", "  error 1", "op 0 drop 3", "  ok", "  op 0 10 11", "  refused 0")
	if last := got[len(got)-1]; last != "  audit 0 0" {
		t.Error(last)
	}
	got = tail("asof 3")
	expect(t, got[:3], "asof 3", "  ok", "  asof 3 1 0")
	if !strings.HasPrefix(got[3], "  digest ") || len(got[3]) != 9+64 {
		t.Error(got[3])
	}
}

func TestBranches(t *testing.T) {
	built := play(t, song...)
	got := play(t, append(song[:len(song):len(song)], "branch", "op 1 drop 3", "bounce 0 3 3", "branch", "op 1 drop 5", "back", "back", "back", "audit 0 0", "play 0 2", "report")...)[len(built):]
	expect(t, got[:2], "branch", "  ok")
	text := strings.Join(got, "\n")
	for _, want := range []string{"branch\n  ok\n  branches 2\n", "back\n  ok\n  branches 1\nback\n  ok\n  branches 0\nback\n  error 1\naudit 0 0\n  error 251\nplay 0 2\n  ok\n  out 100 -150\nreport\n  ok\n  kept 17 0\n"} {
		if !strings.Contains(text, want) {
			t.Error(text, want)
		}
	}
	var many []string
	for range 17 {
		many = append(many, "branch")
	}
	got = play(t, many...)
	expect(t, got[len(got)-4:], "  ok", "  branches 16", "branch", "  error 2")
}

func TestCrash(t *testing.T) {
	l := append(song[:3:3], "save", "op 2 node 3 0", "op 2 param 5", "crash 0", "report", "op 2 node 3 0", "op 2 param 6", "crash 1", "report", "crash 5", "report")
	got := play(t, l...)
	at := 9
	expect(t, got[at+3:at+6], "save", "  ok", "  records 3")
	text := strings.Join(got, "\n")
	for _, want := range []string{"crash 0\n  ok\n  records 3\nreport\n  ok\n  kept 3 3\n", "crash 1\n  ok\n  records 4\nreport\n  ok\n  kept 4 4\n", "crash 5\n  ok\n  records 4\nreport\n  ok\n  kept 4 4\n"} {
		if !strings.Contains(text, want) {
			t.Error(text, want)
		}
	}
	if strings.Contains(text[strings.Index(text, "crash 0"):strings.Index(text, "crash 1")], "param 513 5") {
		t.Error("a lost parameter", text)
	}
	var many []string
	for range 90 {
		many = append(many, "op 0 proc "+strings.Repeat("x", 300))
	}
	got = play(t, append(many, "save", "crash 3")...)
	expect(t, got[len(got)-4:], "save", "  error 2", "crash 3", "  error 2")
}

// TestAnyCrash compares the run after a crash with that of the commands that remain.
func TestAnyCrash(t *testing.T) {
	r := &fixtures.Random{State: 3}
	kept := append(song[:len(song):len(song)], "undo 0 9", "bounce 0 4 2", "branch", "op 3 drop 4", "back", "op 3 node 3 0")
	tail := []string{"report", "play 0 4", "audit 1 1"}
	for range 12 {
		saved, left := r.Intn(len(kept)), r.Intn(2*len(kept))
		script := append(append(kept[:saved:saved], "save"), kept[saved:]...)
		got := play(t, append(append(script, "crash "+itoa(left)), tail...)...)
		at := len(got) - 1
		for !strings.HasPrefix(got[at], "  records ") {
			at--
		}
		n := 0
		for _, d := range strings.TrimPrefix(got[at], "  records ") {
			n = 10*n + int(d-'0')
		}
		if n < saved || n > len(kept) {
			t.Fatal(saved, left, n)
		}
		want := play(t, append(append(kept[:n:n], "save"), tail...)...)
		from := len(want) - len(got[at+1:])
		if from < 0 {
			t.Fatal(got, want)
		}
		expect(t, got[at+1:], want[from:]...)
	}
}

func itoa(n int) string {
	if n < 10 {
		return string(rune('0' + n))
	}
	return itoa(n/10) + itoa(n%10)
}

func TestSpaces(t *testing.T) {
	a, _, _ := console.Play(strings.Join(song, "\n"))
	b, _, e := console.Play("\n # x\n" + strings.ReplaceAll(strings.Join(song, " \n\n  "), "node ", "node   ") + "   \n")
	if e != api.OK || a != b {
		t.Error(b)
	}
	c, _, _ := console.Play(strings.Join(song[:5], "\n"))
	if !strings.HasPrefix(a, c) {
		t.Error("a beginning")
	}
}

func TestGreatestNumbers(t *testing.T) {
	got := play(t, "op 0 node 4 0", "play 0 256", "meter 0 256", "bounce 256 256 256")
	if got[6] != "  out"+strings.Repeat(" 0", 256) || got[9] != "  meter 0 0 0" || got[12] != "  file 1024 1" {
		t.Error(got)
	}
}
