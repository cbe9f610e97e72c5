package tests

import (
	"slices"
	"strings"
	"testing"

	"loop.example/telemetryagent/impl"
)

// talk is lines, each one with its output behind it.
type talk [][2]string

// wantTalk reports an error if a session has other output.
func wantTalk(t *testing.T, what string, steps talk) {
	t.Helper()
	var lines []string
	want := ""
	for _, step := range steps {
		lines = append(lines, step[0])
		want += step[1] + "\n"
	}
	if output := impl.RunSession(lines); output != want {
		t.Errorf("%s: RunSession of %q =\n%s, not\n%s", what, lines, output, want)
	}
}

// puts returns the line that puts an item with a body of some length.
func puts(class int, length int) string {
	return "put " + writeNumbers(join([]int{class, 7}, times(length, 9))...)
}

// repeat returns a step many times.
func repeat(many int, line string, output string) talk {
	return slices.Repeat(talk{{line, output}}, many)
}

// outputLines returns the lines of an output, without their ends.
func outputLines(output string) []string {
	if output == "" {
		return nil
	}
	return strings.Split(strings.TrimSuffix(output, "\n"), "\n")
}

// noCommands has lines that are no command, though some of them almost are.
func noCommands() []string {
	return []string{
		"", " ", "  ", "\n", "put", "put\t", "put\t1 7 9", "put\n", "put\u00a01 7 9", "put1 7 9", "put1", "Put 1 7 9", "PUT 1 7 9", " put 1 7 9",
		"  put 1 7 9", "\tput 1 7 9", "\nput 1 7 9", "puts 1 7 9", "putt 1 7 9", "pu 1 7 9", "ut 1 7 9", "pput 1 7 9", "p", "put,1 7 9", "put: 1 7 9", "1 7 9",
		"pop ", "pop  ", " pop", "Pop", "POP", "pop\n", "pop\r", "pop\t", "\tpop", "pop\x00", "\x00pop", "pops", "poppop", "po", "op", "pop 0", "pop 1", "pop pop", "pop;", "pop.",
		"used ", " used", "Used", "USED", "used\n", "used\t", "used 0", "use", "sed", "useds", "used used", "used load",
		"load ", " load", "Load", "LOAD", "load\n", "load\t", "load 0", "loa", "oad", "loads", "load load", "load pop",
		"ok", "no", "what", "later", "shed", "shed 0", "help", "quit", "push 1 7 9", "take 1 7 9", "\xff", "\uff50op", "used\u00a0", strings.Repeat("pop", 1000),
	}
}

// noItems has lines that put, though there is no item.
func noItems() []string {
	return []string{
		"put ", "put  ", "put   ", "put 1", "put 1 ", "put  1 7 9", "put 1  7 9", "put 1 7  9", "put 1 7 9 ", "put 1 7 9  ", "put 01 7 9", "put 1 07 9", "put 1 7 09",
		"put 3 7 9", "put -1 7 9", "put 1 256 9", "put 1 -1 9", "put 1 7 256", "put 1 7 -9", "put 1 7 x", "put x", "put +1 7 9", "put 1 7 9.0", "put 1,7,9",
		"put put 1 7 9", "put put", "put pop", "put used", "put 1 7 9\n", "put \t1 7 9", "put 1\t7 9", "put \n", "put 1 7 9\x00", "put item", "put \"1 7 9\"",
		"put 1 7 1 1 1 1 1 1 1 1 1", "put 0 0 0 0 0 0 0 0 0 0 0", "put 1 18446744073709551623 9", "put 257 7 9", "put 1 7" + strings.Repeat(" 1", 1000),
	}
}

// byHand is the agent of a session.
type byHand struct {
	stand stand
	queue impl.Queue
	next  int
}

// sessionByHand returns the output of the lines of a session, however many
// there are.
func sessionByHand(lines []string) []string {
	a := byHand{queue: impl.Queue{Share: times(3, 20), Debt: times(3, 0)}}
	a.stand.budget = impl.Budget{Total: 30, Kept: []int{8, 0, 0}, Used: times(3, 0)}
	var output []string
	for _, line := range lines {
		output = append(output, a.run(line))
	}
	return output
}

// run returns the output of a line.
func (a *byHand) run(line string) string {
	used := bytesOf(a.stand.list)
	switch {
	case strings.HasPrefix(line, "put "):
		return a.put(line[4:])
	case line == "pop":
		return a.pop()
	case line == "used":
		return writeNumbers(used...)
	case line == "load":
		load := 0
		for load*30 < 100*addUp(used) {
			load++
		}
		return writeNumbers(load)
	}
	return "what"
}

// put returns the output of a line that puts an item.
func (a *byHand) put(text string) string {
	x, ok := itemByHand(text)
	if !ok {
		return "no"
	}
	size := len(x.Body) + 2
	answer, shed := answerByHand(a.stand, x.Class, size)
	left := withoutAll(a.stand.list, shed)
	if answer == impl.AnswerLater || len(left) >= 10 {
		return "later"
	}
	a.stand.list = append(left, impl.Entry{Name: a.next, Class: x.Class, Size: size})
	a.stand.budget.Used = bytesOf(a.stand.list)
	a.next++
	if answer == impl.AnswerTake {
		return "ok"
	}
	return "shed " + writeNumbers(namesOf(shed)...)
}

// pop returns the output of a line that lets an entry leave.
func (a *byHand) pop() string {
	a.queue.List = a.stand.list
	at, debt, turn := popByHand(a.queue)
	if at < 0 {
		return "no"
	}
	x := a.stand.list[at]
	a.queue.Debt, a.queue.Turn = debt, turn
	a.stand.list = without(a.stand.list, at)
	a.stand.budget.Used = bytesOf(a.stand.list)
	return writeNumbers(x.Name, x.Class, x.Size)
}

// eachSession calls a function with the lines of many sessions, some of which
// have more lines than are executed.
func eachSession(f func(lines []string)) {
	d := dice{state: 31}
	others := slices.Concat(noCommands(), noItems())
	for i := range 3000 {
		var lines []string
		for range i % 26 {
			switch roll := d.roll(20); {
			case roll < 10+i%4:
				// Some sessions have short items alone, and thus more entries.
				lines = append(lines, puts(d.roll(3), d.roll([]int{9, 9, 9, 3, 1}[i%5])))
			case roll < 17:
				lines = append(lines, "pop")
			case roll < 19:
				lines = append(lines, []string{"used", "load"}[d.roll(2)])
			default:
				lines = append(lines, others[d.roll(len(others))])
			}
		}
		f(lines)
	}
}

// P126, P176: sessions, written by hand.
func TestSessionsByHand(t *testing.T) {
	for what, steps := range map[string]talk{
		"no lines":        {},
		"nothing is used": {{"used", "0 0 0"}, {"load", "0"}, {"pop", "no"}, {"used", "0 0 0"}, {"load", "0"}},
		"sizes are bodies and 2": {
			{"put 1 0", "ok"}, {"used", "0 2 0"}, {"load", "7"}, {"put 1 0 5 6 7", "ok"}, {"used", "0 7 0"}, {"load", "24"},
			{puts(0, 8), "ok"}, {"used", "10 7 0"}, {"load", "57"}, {puts(2, 1), "ok"}, {"used", "10 7 3"}, {"load", "67"},
		},
		"numbers with zeros are numbers": {
			{"put 0 0 0", "ok"}, {"put 0 10 100 200", "ok"}, {"put 0 00", "no"}, {"put 0 0 00", "no"}, {"put 00 0", "no"}, {"used", "7 0 0"},
			{"pop", "0 0 3"}, {"pop", "1 0 4"}, {"pop", "no"},
		},
		"what is kept is kept": {
			{puts(2, 8), "ok"}, {puts(2, 8), "ok"}, {puts(2, 1), "later"}, {puts(2, 0), "ok"}, {puts(2, 0), "later"}, {"load", "74"},
			{puts(0, 6), "ok"}, {"used", "8 0 22"}, {"load", "100"}, {puts(2, 0), "later"},
		},
		"the second class has nothing kept": {
			{puts(1, 8), "ok"}, {puts(1, 8), "ok"}, {puts(1, 0), "ok"}, {puts(1, 0), "later"}, {puts(2, 0), "later"}, {"used", "0 22 0"},
			{puts(0, 8), "shed 0"}, {"used", "10 12 0"}, {"pop", "1 1 10"}, {"pop", "2 1 2"}, {"pop", "3 0 10"}, {"pop", "no"},
		},
		"several are shed, the last class first": {
			{puts(2, 2), "ok"}, {puts(2, 2), "ok"}, {puts(2, 2), "ok"}, {puts(2, 2), "ok"}, {puts(2, 2), "ok"}, {puts(0, 8), "ok"},
			{puts(0, 8), "shed 0 1 2"}, {"used", "20 0 8"}, {puts(1, 2), "shed 3"}, {"used", "20 4 4"}, {puts(0, 8), "shed 4 7"},
			{"used", "30 0 0"}, {"load", "100"}, {puts(0, 0), "later"}, {"pop", "5 0 10"}, {"pop", "6 0 10"}, {"pop", "8 0 10"}, {"pop", "no"},
		},
		"what is not enough is not shed": {
			{puts(1, 8), "ok"}, {puts(0, 8), "ok"}, {puts(0, 6), "ok"}, {puts(2, 0), "ok"}, {"used", "18 10 2"}, {puts(1, 1), "later"},
			{puts(2, 0), "later"}, {"used", "18 10 2"}, {puts(1, 0), "shed 3"}, {"used", "18 12 0"},
		},
		"names are those of taken items": {
			{"put 2 1 1 1 1 1 1 1 1 1", "ok"}, {"put x", "no"}, {"put ", "no"}, {"put 2 2 1 1 1 1 1 1 1 1", "ok"}, {"put 2 3 1", "later"}, {"help", "what"},
			{"put 2 3", "ok"}, {"put 2 4", "later"}, {"put 1 5", "shed 0"}, {"pop", "3 1 2"}, {"pop", "1 2 10"}, {"pop", "2 2 2"}, {"put 2 6", "ok"}, {"pop", "4 2 2"}, {"pop", "no"},
		},
		"what leaves is given back": {
			{puts(2, 8), "ok"}, {puts(2, 8), "ok"}, {puts(2, 0), "ok"}, {puts(2, 0), "later"}, {"pop", "0 2 10"}, {"used", "0 0 12"}, {"load", "40"},
			{puts(2, 8), "ok"}, {puts(2, 0), "later"}, {"pop", "1 2 10"}, {"pop", "2 2 2"}, {"pop", "3 2 10"}, {"used", "0 0 0"}, {"load", "0"},
		},
		"the classes take turns": {
			{puts(0, 6), "ok"}, {puts(0, 0), "ok"}, {puts(1, 8), "ok"}, {puts(2, 8), "ok"}, {"used", "10 10 10"},
			{"pop", "2 1 10"}, {"used", "10 0 10"}, {"pop", "3 2 10"}, {"used", "10 0 0"}, {"pop", "0 0 8"}, {"used", "2 0 0"}, {"pop", "1 0 2"}, {"used", "0 0 0"},
		},
		"a class waits until its debt is enough": {
			{puts(1, 8), "ok"}, {puts(1, 0), "ok"}, {puts(1, 8), "ok"}, {puts(0, 0), "ok"}, {"pop", "0 1 10"}, {"pop", "1 1 2"}, {"pop", "3 0 2"}, {"pop", "2 1 10"}, {"pop", "no"},
		},
		"debts and turns stay, while nobody leaves": {
			{puts(1, 8), "ok"}, {"pop", "0 1 10"}, {"pop", "no"}, {"used", "0 0 0"}, {puts(2, 8), "ok"}, {puts(1, 8), "ok"}, {"pop", "2 1 10"}, {"pop", "1 2 10"}, {"pop", "no"},
		},
		"a class without entries loses its debt": {
			{puts(1, 0), "ok"}, {"pop", "0 1 2"}, {puts(2, 0), "ok"}, {"pop", "1 2 2"}, {puts(1, 0), "ok"}, {puts(2, 8), "ok"}, {puts(2, 8), "ok"},
			{"pop", "3 2 10"}, {"pop", "2 1 2"}, {"pop", "4 2 10"}, {"pop", "no"},
		},
		"shed entries do not leave": {
			{puts(2, 8), "ok"}, {puts(2, 8), "ok"}, {puts(1, 8), "shed 0"}, {puts(0, 8), "ok"}, {puts(0, 0), "shed 1"}, {"pop", "2 1 10"}, {"pop", "3 0 10"}, {"pop", "4 0 2"}, {"pop", "no"},
		},
		"the smallest item of each class": {{"put 0 0", "ok"}, {"put 1 0", "ok"}, {"put 2 0", "ok"}, {"used", "2 2 2"}, {"load", "20"}, {"pop", "1 1 2"}, {"pop", "2 2 2"}, {"pop", "0 0 2"}, {"pop", "no"}},
	} {
		wantTalk(t, what, steps)
	}
}

// P126: and there may be no more entries than a queue has.
func TestSessionsWithManyEntries(t *testing.T) {
	ten := repeat(10, "put 2 0", "ok")
	wantTalk(t, "one more", append(ten[:10:10], talk{{"put 2 0", "later"}, {"put 1 0", "later"}, {"put 0 0", "later"}, {puts(0, 8), "later"}, {"used", "0 0 20"}}...))
	wantTalk(t, "one less", append(ten[:10:10], talk{{"put 2 0", "later"}, {"pop", "0 2 2"}, {"put 1 0", "ok"}, {"put 1 0", "later"}, {"used", "0 2 18"}, {"pop", "1 2 2"}, {"pop", "2 2 2"}}...))
	wantTalk(t, "some are shed", append(ten[:10:10], talk{{puts(1, 1), "shed 0"}, {puts(1, 8), "shed 1 2 3 4 5"}, {"put 1 0", "shed 6"}, {"used", "0 15 6"}, {"load", "70"}, {"put 0 0", "ok"}, {"put 0 0", "ok"}, {"put 0 0", "ok"}, {"put 0 0", "ok"}, {"put 0 0", "shed 7"}}...))
}

// P126: for items of all lengths.
func TestImportantItemsDisplaceOthers(t *testing.T) {
	for length := range impl.MaxBody + 1 {
		size := length + 2
		lines := []string{puts(2, 8), puts(2, 8), puts(2, 0), puts(0, 6), puts(0, length), "used"}
		want := []string{"ok", "ok", "ok", "ok", "shed 0", writeNumbers(8+size, 0, 12)}
		if output := outputLines(impl.RunSession(lines)); !slices.Equal(output, want) {
			t.Errorf("RunSession of %q = %q, not %q", lines, output, want)
		}
		lines[4] = puts(1, length)
		want[5] = writeNumbers(8, size, 12)
		if output := outputLines(impl.RunSession(lines)); !slices.Equal(output, want) {
			t.Errorf("RunSession of %q = %q, not %q", lines, output, want)
		}
		lines[4] = puts(2, length)
		want[4], want[5] = "later", "8 0 22"
		if output := outputLines(impl.RunSession(lines)); !slices.Equal(output, want) {
			t.Errorf("RunSession of %q = %q, not %q", lines, output, want)
		}
	}
}

// P176: every item leaves, by its turn.
func TestSessionsLetEntriesLeave(t *testing.T) {
	for first := range 3 {
		for second := range 3 {
			for third := range 3 {
				order := []int{first, second, third}
				steps := talk{{puts(first, 2), "ok"}, {puts(second, 2), "ok"}, {puts(third, 2), "ok"}}
				// Nobody has any debt, so that the first turn is that of class 1.
				for _, class := range []int{1, 2, 0} {
					for name, other := range order {
						if other == class {
							steps = append(steps, [2]string{"pop", writeNumbers(name, class, 4)})
						}
					}
				}
				wantTalk(t, "three items", append(steps, [2]string{"pop", "no"}))
			}
		}
	}
}

// P127: lines that are no command change nothing either.
func TestLinesThatAreAlmostCommands(t *testing.T) {
	for output, lines := range map[string][]string{"what": noCommands(), "no": noItems()} {
		for _, line := range lines {
			wantTalk(t, "alone", talk{{line, output}})
			wantTalk(t, "between others", talk{
				{"put 1 7 9", "ok"}, {line, output}, {"used", "0 3 0"}, {"load", "10"}, {"put 2 7 9 9", "ok"}, {line, output},
				{"pop", "0 1 3"}, {line, output}, {"pop", "1 2 4"}, {line, output}, {"pop", "no"}, {line, output}, {"used", "0 0 0"},
			})
		}
	}
}

// P125: lines behind MaxLines have no output, and all before them have.
func TestSessionsHaveFewLines(t *testing.T) {
	for _, many := range []int{0, 1, 2, 18, 19, 20, 21, 22, 40, 500} {
		for line, output := range map[string]string{"pop": "no", "used": "0 0 0", "load": "0", "put ": "no", "": "what", "put": "what"} {
			want := strings.Repeat(output+"\n", min(many, 20))
			if got := impl.RunSession(slices.Repeat([]string{line}, many)); got != want {
				t.Errorf("RunSession of %d times %q = %q", many, line, got)
			}
		}
	}
	steps := append(repeat(19, "used", "0 0 0"), [2]string{"put 1 7 9", "ok"})
	wantTalk(t, "the last line", steps)
	lines := append(slices.Repeat([]string{"used"}, 18), "put 1 7 9", "pop", "pop", "used")
	if output := outputLines(impl.RunSession(lines)); len(output) != 20 || output[18] != "ok" || output[19] != "0 1 3" {
		t.Errorf("RunSession of %q = %q", lines, output)
	}
}

// P125, P126, P176.
func TestSessionsRunLineByLine(t *testing.T) {
	seen := map[string]int{}
	eachSession(func(lines []string) {
		output := impl.RunSession(lines)
		want := sessionByHand(lines[:min(len(lines), 20)])
		if !slices.Equal(outputLines(output), want) {
			t.Fatalf("RunSession of %q =\n%q, not\n%q", lines, outputLines(output), want)
		}
		if output != "" && !strings.HasSuffix(output, "\n") {
			t.Fatalf("RunSession of %q = %q", lines, output)
		}
		for n := range lines {
			if fewer := impl.RunSession(lines[:n]); !strings.HasPrefix(output, fewer) {
				t.Fatalf("RunSession of %q = %q, and of %d lines %q", lines, output, n, fewer)
			}
		}
		for _, line := range want {
			seen[strings.SplitN(line, " ", 2)[0]]++
		}
	})
	for _, word := range []string{"ok", "no", "later", "shed", "what"} {
		if seen[word] < 200 {
			t.Errorf("only %d times %s", seen[word], word)
		}
	}
}

// P127: with questions behind the last line, and behind each line.
func TestQuestionsChangeNothing(t *testing.T) {
	questions := []string{"load", "used", "used", "load", "help", "used"}
	eachSession(func(lines []string) {
		short := lines[:min(len(lines), 14)]
		before := outputLines(impl.RunSession(append(short[:len(short):len(short)], "used")))
		after := outputLines(impl.RunSession(append(short[:len(short):len(short)], questions...)))
		if before[len(short)] != after[len(after)-1] {
			t.Fatalf("used after %q prints %q, and after questions %q", short, before[len(short)], after[len(after)-1])
		}
		var asked []string
		for _, line := range lines[:min(len(lines), 6)] {
			asked = append(asked, line, "used", "load")
		}
		asked = append(asked, "used")
		output, plain := outputLines(impl.RunSession(asked)), outputLines(impl.RunSession(append(slices.Clone(lines[:len(asked)/3]), "used")))
		for i, want := range plain {
			if output[3*i] != want {
				t.Fatalf("RunSession of %q = %q, and without questions %q", asked, output, plain)
			}
		}
	})
}

// P125: sessions keep nothing from one to the next, and change no line.
func TestSessionsKeepNothing(t *testing.T) {
	steps := []string{"put 1 7 9", "put 0 5", "used", "pop"}
	for range 3 {
		lines := spare(steps)
		if output := impl.RunSession(lines); output != "ok\nok\n2 3 0\n0 1 3\n" {
			t.Errorf("RunSession of %q = %q", lines, output)
		}
		if !slices.Equal(lines, steps) || !zeros(behind(lines)) {
			t.Errorf("the argument is changed: %q", lines)
		}
	}
	for _, lines := range [][]string{nil, {}, spare([]string{}), steps[:0], slices.Repeat(steps, 9)[:0]} {
		if output := impl.RunSession(lines); output != "" {
			t.Errorf("RunSession of no lines = %q", output)
		}
	}
}
