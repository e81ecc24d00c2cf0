package shape_test

import (
	"math"
	"math/rand"
	"slices"
	"sync"
	"testing"

	"barbican/api"
	"barbican/ins"
	"barbican/shape"
)

var (
	mov  = api.Ins{Op: api.Mov, UseImm: true, Imm: 1}
	exit = api.Ins{Op: api.Exit}
	// wrong jumps out of every filter too, and has a field that its Op has not.
	wrong = api.Ins{Op: api.Jump, Off: -9, Dst: 1}
)

func jump(off int) api.Ins { return api.Ins{Op: api.Jump, Off: off} }

func cond(off int) api.Ins { return api.Ins{Op: api.Jeq, UseImm: true, Off: off} }

func row(l ...api.Ins) []api.Ins { return l }

// long is n times mov, and then last.
func long(n int, last ...api.Ins) []api.Ins {
	return slices.Concat(slices.Repeat(row(mov), n), last)
}

func fault(err api.Errno, at int) api.Fault { return api.Fault{Err: err, At: at} }

type sample struct {
	name string
	l    []api.Ins
	want api.Fault
}

func check(t *testing.T, samples []sample) {
	t.Helper()
	for _, s := range samples {
		if got := shape.Check(s.l); got != s.want {
			t.Errorf("%s: %v, not %v", s.name, got, s.want)
		}
	}
}

// P8.1, the chapter's examples
func TestExamples(t *testing.T) {
	check(t, []sample{
		{"mov, exit", row(mov, exit), fault(api.OK, 0)},
		{"exit, exit", row(exit, exit), fault(api.ErrDead, 1)},
		{"jump 0, mov", row(jump(0), mov), fault(api.ErrEnd, 1)},
		{"jump -1", row(jump(-1)), fault(api.ErrBack, 0)},
		{"jump 1, exit", row(jump(1), exit), fault(api.ErrFar, 0)},
	})
}

// P8.1, how many instructions; R6
func TestSizes(t *testing.T) {
	check(t, []sample{
		{"nil", nil, fault(api.ErrNone, 0)},
		{"no instructions", row(), fault(api.ErrNone, 0)},
		{"one", row(exit), fault(api.OK, 0)},
		{"4096", long(4095, exit), fault(api.OK, 0)},
		{"4097", long(4096, exit), fault(api.ErrLong, 0)},
		{"4097 that have faults", long(4095, wrong, mov), fault(api.ErrLong, 0)},
		{"4096 that are not right", make([]api.Ins, 4096), fault(api.ErrShape, 0)},
		{"4097 that are not right", make([]api.Ins, 4097), fault(api.ErrLong, 0)},
	})
}

// P8.1, 1
func TestNotRight(t *testing.T) {
	check(t, []sample{
		{"the first", row(wrong, exit), fault(api.ErrShape, 0)},
		{"the last", row(mov, wrong), fault(api.ErrShape, 1)},
		{"two", row(mov, wrong, wrong), fault(api.ErrShape, 1)},
		{"no Op", row(mov, api.Ins{}, exit), fault(api.ErrShape, 1)},
		{"an Op behind the last", row(mov, exit, api.Ins{Op: 29}), fault(api.ErrShape, 2)},
		{"an Exit with a register", row(api.Ins{Op: api.Exit, Dst: 1}), fault(api.ErrShape, 0)},
		{"a Mov to r10", row(api.Ins{Op: api.Mov, Dst: 10}, exit), fault(api.ErrShape, 0)},
		{"a size of three", row(api.Ins{Op: api.Load, Size: 3}, exit), fault(api.ErrShape, 0)},
		{"an Off below all", row(jump(-1<<15-1), exit), fault(api.ErrShape, 0)},
		{"an Off above all", row(jump(1<<15), exit), fault(api.ErrShape, 0)},
		{"the lowest int", row(jump(math.MinInt), exit), fault(api.ErrShape, 0)},
		{"the highest int", row(jump(math.MaxInt), exit), fault(api.ErrShape, 0)},
		{"where nothing comes to", row(exit, wrong), fault(api.ErrShape, 1)},
	})
}

// P8.1, 2
func TestJumps(t *testing.T) {
	check(t, []sample{
		{"to itself", row(mov, jump(-1), exit), fault(api.ErrBack, 1)},
		{"to the first", row(mov, jump(-2), exit), fault(api.ErrBack, 1)},
		{"ahead of the first", row(mov, jump(-3), exit), fault(api.ErrBack, 1)},
		{"the lowest Off", row(jump(-1<<15), exit), fault(api.ErrBack, 0)},
		{"a conditional one to itself", row(mov, cond(-1), exit), fault(api.ErrBack, 1)},
		{"to the next", row(jump(0), exit), fault(api.OK, 0)},
		{"a conditional one to the next", row(cond(0), exit), fault(api.OK, 0)},
		{"to the last", row(cond(1), mov, exit), fault(api.OK, 0)},
		{"behind the last", row(cond(2), mov, exit), fault(api.ErrFar, 0)},
		{"far behind the last", row(cond(3), mov, exit), fault(api.ErrFar, 0)},
		{"the highest Off", row(jump(1<<15-1), exit), fault(api.ErrFar, 0)},
		{"the last one, to the next", row(mov, jump(0)), fault(api.ErrFar, 1)},
		{"the last one, to itself", row(mov, jump(-1)), fault(api.ErrBack, 1)},
		{"the last one, conditional", row(mov, cond(0)), fault(api.ErrFar, 1)},
		{"over nearly all", slices.Concat(row(cond(4094)), long(4094, exit)), fault(api.OK, 0)},
		{"over all", slices.Concat(row(cond(4095)), long(4094, exit)), fault(api.ErrFar, 0)},
	})
	for op := api.Jump; op <= api.Jset; op++ {
		check(t, []sample{
			{"any jump back", row(mov, api.Ins{Op: op, Off: -1}, exit), fault(api.ErrBack, 1)},
			{"any jump out", row(mov, api.Ins{Op: op, Off: 1}, exit), fault(api.ErrFar, 1)},
			{"any jump on", row(mov, api.Ins{Op: op}, exit), fault(api.OK, 0)},
		})
	}
}

// P8.1, 2: an Off that is not a jump's leads nowhere
func TestOtherOffs(t *testing.T) {
	check(t, []sample{
		{"a Load's below", row(api.Ins{Op: api.Load, Src: 1, Off: -8, Size: 8}, exit), fault(api.OK, 0)},
		{"a Load's above", row(api.Ins{Op: api.Load, Src: 1, Off: 8, Size: 8}, exit), fault(api.OK, 0)},
		{"a Put's below", row(api.Ins{Op: api.Put, Dst: 10, Off: -8, Size: 8}, exit), fault(api.OK, 0)},
		{"a Put's above", row(api.Ins{Op: api.Put, Dst: 10, Off: 8, Size: 8}, exit), fault(api.OK, 0)},
	})
}

// P8.1, 3
func TestEnds(t *testing.T) {
	for _, last := range row(mov, api.Ins{Op: api.Neg}, api.Ins{Op: api.Load, Size: 1}, api.Ins{Op: api.Put, Size: 1}, api.Ins{Op: api.Sar}) {
		check(t, []sample{
			{"alone", row(last), fault(api.ErrEnd, 0)},
			{"behind another", row(mov, last), fault(api.ErrEnd, 1)},
			{"behind an Exit", row(exit, last), fault(api.ErrEnd, 1)},
			{"not last", row(last, exit), fault(api.OK, 0)},
		})
	}
	check(t, []sample{{"4096", long(4096), fault(api.ErrEnd, 4095)}})
}

// P8.1, 4
func TestDead(t *testing.T) {
	check(t, []sample{
		{"behind an Exit", row(mov, exit, mov, exit), fault(api.ErrDead, 2)},
		{"jumped over", row(jump(1), mov, exit), fault(api.ErrDead, 1)},
		{"jumped over, two", row(jump(2), mov, mov, exit), fault(api.ErrDead, 1)},
		{"jumped over, by a conditional one", row(cond(1), mov, exit), fault(api.OK, 0)},
		{"come to by a dead one alone", row(jump(3), mov, cond(0), jump(1), mov, exit), fault(api.ErrDead, 1)},
		{"come to by a dead jump alone", row(exit, jump(0), exit), fault(api.ErrDead, 1)},
		{"behind an Exit, jumped to", row(cond(1), exit, exit), fault(api.OK, 0)},
		{"behind a Jump, jumped to", row(cond(1), jump(1), mov, exit), fault(api.OK, 0)},
		{"behind a Jump, jumped to from afar", row(cond(3), cond(2), mov, jump(1), mov, exit), fault(api.OK, 0)},
		{"the last of 4096", long(4094, exit, exit), fault(api.ErrDead, 4095)},
	})
}

// P8.1, which fault is told, when there are several
func TestFirst(t *testing.T) {
	check(t, []sample{
		{"not right, behind a jump back", row(jump(-1), wrong), fault(api.ErrShape, 1)},
		{"not right, behind a jump out", row(jump(9), wrong), fault(api.ErrShape, 1)},
		{"out, and then back", row(jump(9), jump(-1)), fault(api.ErrFar, 0)},
		{"back, and then out", row(jump(-1), jump(9)), fault(api.ErrBack, 0)},
		{"back twice", row(mov, jump(-1), jump(-1)), fault(api.ErrBack, 1)},
		{"out twice", row(mov, cond(9), cond(9), exit), fault(api.ErrFar, 1)},
		{"dead, and then back", row(exit, mov, jump(-1)), fault(api.ErrBack, 2)},
		{"dead, and then out", row(exit, mov, jump(0)), fault(api.ErrFar, 2)},
		{"dead, and then the end", row(exit, mov, mov), fault(api.ErrEnd, 2)},
		{"dead twice", row(exit, mov, exit, mov, exit), fault(api.ErrDead, 1)},
		{"out, and the end", row(cond(1), mov), fault(api.ErrFar, 0)},
	})
}

// What follows goes by the chapter's words alone, with no heed to how jumps go.

func behind(l []api.Ins, at int) []int {
	switch op := l[at].Op; {
	case op == api.Exit:
		return nil
	case op == api.Jump:
		return []int{at + 1 + l[at].Off}
	case op > api.Jump:
		return []int{at + 1, at + 1 + l[at].Off}
	}
	return []int{at + 1}
}

func comeTo(l []api.Ins) []bool {
	come := make([]bool, len(l))
	come[0] = true
	for range l {
		for at := range l {
			for _, to := range behind(l, at) {
				if come[at] && to >= 0 && to < len(l) {
					come[to] = true
				}
			}
		}
	}
	return come
}

func byWords(l []api.Ins) api.Fault {
	if len(l) == 0 {
		return fault(api.ErrNone, 0)
	}
	if len(l) > 4096 {
		return fault(api.ErrLong, 0)
	}
	for at := range l {
		if !ins.Right(l[at]) {
			return fault(api.ErrShape, at)
		}
	}
	for at := range l {
		jumps := l[at].Op >= 16 && l[at].Op <= 27
		if jumps && l[at].Off < 0 {
			return fault(api.ErrBack, at)
		}
		if jumps && l[at].Off > len(l)-1-at-1 {
			return fault(api.ErrFar, at)
		}
	}
	if op := l[len(l)-1].Op; op != api.Exit && op != api.Jump {
		return fault(api.ErrEnd, len(l)-1)
	}
	if at := slices.Index(comeTo(l), false); at >= 0 {
		return fault(api.ErrDead, at)
	}
	return fault(api.OK, 0)
}

// endsFrom tells whether all ways from a place come to an Exit within so many steps.
func endsFrom(l []api.Ins, at, steps int) bool {
	if steps == 0 || at < 0 || at >= len(l) {
		return false
	}
	for _, to := range behind(l, at) {
		if !endsFrom(l, to, steps-1) {
			return false
		}
	}
	return true
}

// P8.1, P8.2: all filters of up to five instructions out of a few
func TestAllShort(t *testing.T) {
	some := row(mov, exit, wrong, jump(-1), jump(0), jump(1), jump(2), cond(-2), cond(0), cond(1), cond(2))
	met := map[api.Errno]int{}
	var try func(l []api.Ins)
	try = func(l []api.Ins) {
		got := shape.Check(l)
		if got != byWords(l) {
			t.Fatalf("%v: %v, not %v", l, got, byWords(l))
		}
		met[got.Err]++
		for at := 0; got.Err == api.OK && at < len(l); at++ {
			if !endsFrom(l, at, len(l)) {
				t.Fatalf("%v has no fault, and from %d no end within %d steps", l, at, len(l))
			}
		}
		if len(l) == 5 {
			return
		}
		for _, i := range some {
			try(append(slices.Clone(l), i))
		}
	}
	try(nil)
	for _, err := range []api.Errno{api.OK, api.ErrNone, api.ErrShape, api.ErrBack, api.ErrFar, api.ErrEnd, api.ErrDead} {
		if met[err] == 0 {
			t.Errorf("no filter was answered %d", err)
		}
	}
}

// forward is a filter whose jumps mostly go on, and not out.
func forward(r *rand.Rand, n int) []api.Ins {
	l := make([]api.Ins, n)
	for at := range l {
		l[at] = mov
		left := n - at - 2
		switch pick := r.Intn(16); {
		case pick == 0:
			l[at] = exit
		case pick == 1 && left > 0:
			l[at] = jump(r.Intn(min(left, 3)))
		case pick < 10 && left > 0:
			l[at] = api.Ins{Op: api.Jeq + api.Op(r.Intn(11)), Off: r.Intn(min(left, 12)), Narrow: r.Intn(2) == 0}
		}
	}
	l[n-1] = exit
	if r.Intn(8) == 0 {
		l[r.Intn(n)] = row(wrong, jump(-1), cond(-3), cond(n), mov, exit, jump(1))[r.Intn(7)]
	}
	return l
}

// P8.1, P8.2: how many steps there are at most is told from the last place on, which no filter without a fault jumps back from
func TestMany(t *testing.T) {
	r := rand.New(rand.NewSource(8))
	whole := 0
	for range 4000 {
		l := forward(r, 1+r.Intn(60))
		got := shape.Check(l)
		if got != byWords(l) {
			t.Fatalf("%v: %v, not %v", l, got, byWords(l))
		}
		if got.Err != api.OK {
			continue
		}
		whole++
		steps := make([]int, len(l))
		for at := len(l) - 1; at >= 0; at-- {
			for _, to := range behind(l, at) {
				if to <= at || to >= len(l) {
					t.Fatalf("%v has no fault, and %d may come behind %d", l, to, at)
				}
				steps[at] = max(steps[at], steps[to])
			}
			steps[at]++
		}
		if slices.Max(steps) > len(l) {
			t.Fatalf("%v has no fault, and %d steps", l, slices.Max(steps))
		}
	}
	if whole < 200 {
		t.Errorf("only %d filters had no fault", whole)
	}
}

// P8.1: every place of the longest filters is asked of
func TestEachPlace(t *testing.T) {
	for at := 0; at < 4095; at += 13 {
		l := long(4095, exit)
		l[at] = wrong
		check(t, []sample{{"not right", l, fault(api.ErrShape, at)}})
		l[at] = cond(-1)
		check(t, []sample{{"back", l, fault(api.ErrBack, at)}})
		l[at] = cond(4095 - at)
		check(t, []sample{{"out", l, fault(api.ErrFar, at)}})
		l[at] = exit
		check(t, []sample{{"an Exit", l, fault(api.ErrDead, at+1)}})
		l[at] = cond(4094 - at)
		check(t, []sample{{"to the last", l, fault(api.OK, 0)}})
	}
}

// R3
func TestKeepsArgument(t *testing.T) {
	for _, l := range [][]api.Ins{row(mov, exit), row(cond(1), exit, exit), row(exit, exit), row(wrong, jump(-1)), long(4095, exit)} {
		kept := slices.Clone(l)
		shape.Check(l)
		if !slices.Equal(l, kept) {
			t.Errorf("the filter was changed: %v", l)
		}
	}
}

// R3: nothing of a filter is kept from one call to the next
func TestChangedBetween(t *testing.T) {
	l := row(cond(1), exit, exit)
	check(t, []sample{{"ahead", l, fault(api.OK, 0)}})
	l[0] = mov
	check(t, []sample{{"changed", l, fault(api.ErrDead, 2)}})
	l[0] = cond(1)
	check(t, []sample{{"changed back", l, fault(api.OK, 0)}})
}

// R4
func TestBesideOneAnother(t *testing.T) {
	l := forward(rand.New(rand.NewSource(1)), 500)
	want := byWords(l)
	var group sync.WaitGroup
	for range 8 {
		group.Go(func() {
			for range 50 {
				if got := shape.Check(l); got != want {
					t.Errorf("%v, not %v", got, want)
				}
			}
		})
	}
	group.Wait()
}
