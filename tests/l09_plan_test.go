package tests

import (
	"math"
	"slices"
	"testing"

	"loop.example/g00710/impl"
)

// sizeOf is the number of butterflies in each level of 2^k elements.
func sizeOf(k int) int { return (1 << k) / 2 }

func stepOf(level int, from int, to int) impl.Step {
	return impl.Step{Level: level, From: from, To: to}
}

// shuffled returns the steps in another order for each seed.
func shuffled(steps []impl.Step, seed int) []impl.Step {
	out := slices.Clone(steps)
	source := numbers(seed)
	for i := len(out) - 1; i > 0; i-- {
		j := element(i+1, large(source.next()))
		out[i], out[j] = out[j], out[i]
	}
	return out
}

// rangesOf divides a level into ranges of most butterflies.
func rangesOf(level int, size int, most int) []impl.Step {
	var list []impl.Step
	for from := 0; from < size; from += most {
		list = append(list, stepOf(level, from, min(from+most, size)))
	}
	return list
}

// unevenOf divides a level into ranges of all lengths, from the first length on.
func unevenOf(level int, size int, first int) []impl.Step {
	var list []impl.Step
	length := first
	for from := 0; from < size; length++ {
		list = append(list, stepOf(level, from, min(from+length, size)))
		from += length
	}
	return list
}

// planFrom returns the plan whose levels are divided by cut.
func planFrom(f int, k int, cut func(level int, size int) []impl.Step) impl.Plan {
	p := impl.Plan{F: f, K: k}
	for level := range k {
		p.Steps = append(p.Steps, cut(level, sizeOf(k))...)
	}
	return p
}

// rangedPlan is what MakePlan must return if there are not too many steps.
func rangedPlan(f int, k int, most int) impl.Plan {
	return planFrom(f, k, func(level int, size int) []impl.Step { return rangesOf(level, size, min(most, size)) })
}

// singlesFirst returns the plan whose levels start with so many steps of one
// butterfly, or with none where the list is too short. What is left of a level
// is one step.
func singlesFirst(f int, k int, singles ...int) impl.Plan {
	return planFrom(f, k, func(level int, size int) []impl.Step {
		count := at(singles, level)
		list := rangesOf(level, count, 1)
		if count < size {
			list = append(list, stepOf(level, count, size))
		}
		return list
	})
}

// fullPlan returns a plan of MaxSteps steps for 2^8 or 2^9 elements.
func fullPlan(f int, k int) impl.Plan {
	if k == 8 {
		return singlesFirst(f, k, 128, 128, 128, 128, 84)
	}
	return singlesFirst(f, k, 256, 256, 81)
}

// overfullPlan has one step more.
func overfullPlan(f int, k int) impl.Plan {
	if k == 8 {
		return singlesFirst(f, k, 128, 128, 128, 128, 85)
	}
	return singlesFirst(f, k, 256, 256, 82)
}

// somePlans returns valid plans of field f for 2^k elements: whole levels, one
// step for each butterfly where these are not too many, the steps of a level in
// ascending, in descending and in no order, levels that are divided in
// different ways, and as many steps as there may be.
func somePlans(f int, k int) []impl.Plan {
	list := []impl.Plan{
		rangedPlan(f, k, sizeOf(k)),
		rangedPlan(f, k, max(3, sizeOf(k)/8)),
		planFrom(f, k, func(level int, size int) []impl.Step { return unevenOf(level, size, 1+level) }),
		planFrom(f, k, func(level int, size int) []impl.Step {
			steps := rangesOf(level, size, size/4+1)
			slices.Reverse(steps)
			return steps
		}),
		planFrom(f, k, func(level int, size int) []impl.Step { return shuffled(unevenOf(level, size, 1), level) }),
		planFrom(f, k, func(level int, size int) []impl.Step {
			return shuffled(rangesOf(level, size, 1+level*size/4), level+7)
		}),
	}
	if k < 8 {
		return append(list, rangedPlan(f, k, 1), planFrom(f, k, func(level int, size int) []impl.Step {
			return shuffled(rangesOf(level, size, 1), level)
		}))
	}
	return append(list, fullPlan(f, k))
}

// eachPlan calls check for valid plans of every K of every field.
func eachPlan(check func(p impl.Plan)) {
	for f := range fields {
		for k := range mostListed(f) + 1 {
			for _, p := range somePlans(f, k) {
				check(p)
			}
		}
	}
}

// eachTellingPlan leaves out the plans without a level, and those for all but the
// fewest and the most elements.
func eachTellingPlan(check func(p impl.Plan)) {
	eachPlan(func(p impl.Plan) {
		if p.K > 0 && (p.K <= 4 || p.K == mostListed(p.F)) {
			check(p)
		}
	})
}

// isPlan counts how often each butterfly is in a step.
func isPlan(p impl.Plan) bool {
	if p.F < 0 || p.F >= len(fields) || p.K < 0 || p.K > mostListed(p.F) || len(p.Steps) > 600 {
		return false
	}
	size, level := sizeOf(p.K), 0
	counts := make([]int, p.K*size)
	for _, s := range p.Steps {
		if s.Level < level || s.Level >= p.K || s.From < 0 || s.From >= s.To || s.To > size {
			return false
		}
		level = s.Level
		for b := s.From; b < s.To; b++ {
			counts[level*size+b]++
		}
	}
	return slices.Equal(counts, equalElements(len(counts), 1))
}

// withStep returns a plan with another step at one index.
func withStep(p impl.Plan, i int, s impl.Step) impl.Plan {
	p.Steps = slices.Clone(p.Steps)
	p.Steps[i] = s
	return p
}

func withoutStep(p impl.Plan, i int) impl.Plan {
	p.Steps = slices.Delete(slices.Clone(p.Steps), i, i+1)
	return p
}

func withMore(p impl.Plan, i int, steps ...impl.Step) impl.Plan {
	p.Steps = slices.Insert(slices.Clone(p.Steps), i, steps...)
	return p
}

func samePlan(a impl.Plan, b impl.Plan) bool {
	return a.F == b.F && a.K == b.K && slices.Equal(a.Steps, b.Steps)
}

// isNothing reports whether a plan is the zero value.
func isNothing(p impl.Plan) bool { return p.F == 0 && p.K == 0 && p.Steps == nil }

// performed works out the butterflies of a step by their definition.
func performed(f int, v []int, s impl.Step) []int {
	p, n, h := fields[f].p, len(v), 1<<s.Level
	w := rootPowers(f, n)
	out := slices.Clone(v)
	for b := s.From; b < s.To; b++ {
		i, j := b/h*2*h+b%h, b%h
		x, y := v[i], v[i+h]*w[j*n/(2*h)]%p
		out[i] = (x + y) % p
		out[i+h] = (x - y + p) % p
	}
	return out
}

func lengthOf(s impl.Step) int { return s.To - s.From }

func splitOf(p impl.Plan, most int) impl.Plan {
	out := impl.Plan{F: p.F, K: p.K}
	for _, s := range p.Steps {
		for _, part := range rangesOf(s.Level, lengthOf(s), min(most, lengthOf(s))) {
			out.Steps = append(out.Steps, stepOf(s.Level, s.From+part.From, s.From+part.To))
		}
	}
	return out
}

// dealtOf counts, for each step, the ones before it on its level.
func dealtOf(p impl.Plan, hands int) [][]int {
	out := make([][]int, hands)
	for i, s := range p.Steps {
		before := 0
		for _, other := range p.Steps[:i] {
			if other.Level == s.Level {
				before++
			}
		}
		out[before%hands] = append(out[before%hands], i)
	}
	return out
}

// makespanOf adds up the greatest work on each level of what is dealt.
func makespanOf(p impl.Plan, dealt [][]int) int {
	sum := 0
	for level := range p.K {
		greatest := 0
		for _, indices := range dealt {
			work := 0
			for _, i := range indices {
				if p.Steps[i].Level == level {
					work += lengthOf(p.Steps[i])
				}
			}
			greatest = max(greatest, work)
		}
		sum += greatest
	}
	return sum
}

func checkPlanOk(t *testing.T, p impl.Plan, want bool) {
	t.Helper()
	if got := impl.PlanOk(p); got != want {
		t.Errorf("PlanOk(%v) is %v", p, got)
	}
}

func checkMade(t *testing.T, f int, k int, most int, want impl.Plan) {
	t.Helper()
	if got, ok := impl.MakePlan(f, k, most); !ok || !samePlan(got, want) {
		t.Errorf("MakePlan(%d, %d, %d) is %v, %v, not %v", f, k, most, got, ok, want)
	}
}

func checkNotMade(t *testing.T, f int, k int, most int) {
	t.Helper()
	if got, ok := impl.MakePlan(f, k, most); ok || !isNothing(got) {
		t.Errorf("MakePlan(%d, %d, %d) is %v, %v", f, k, most, got, ok)
	}
}

func checkStep(t *testing.T, f int, v []int, s impl.Step, want []int) {
	t.Helper()
	if got, ok := impl.RunStep(f, v, s); !ok || !slices.Equal(got, want) {
		t.Errorf("RunStep(%d, %v, %v) is %v, %v, not %v", f, v, s, got, ok, want)
	}
}

func checkNoStep(t *testing.T, f int, v []int, s impl.Step) {
	t.Helper()
	if got, ok := impl.RunStep(f, v, s); ok || got != nil {
		t.Errorf("RunStep(%d, %v, %v) is %v, %v", f, v, s, got, ok)
	}
}

func checkRun(t *testing.T, p impl.Plan, v []int, want []int) {
	t.Helper()
	if got, ok := impl.RunPlan(p, v); !ok || !slices.Equal(got, want) {
		t.Errorf("RunPlan(%v, %v) is %v, %v, not %v", p, v, got, ok, want)
	}
}

func checkNotRun(t *testing.T, p impl.Plan, v []int) {
	t.Helper()
	if got, ok := impl.RunPlan(p, v); ok || got != nil {
		t.Errorf("RunPlan(%v, %v) is %v, %v", p, v, got, ok)
	}
}

func checkSplitPlan(t *testing.T, p impl.Plan, most int, want impl.Plan) {
	t.Helper()
	if got, ok := impl.SplitPlan(p, most); !ok || !samePlan(got, want) {
		t.Errorf("SplitPlan(%v, %d) is %v, %v, not %v", p, most, got, ok, want)
	}
}

func checkNotSplit(t *testing.T, p impl.Plan, most int) {
	t.Helper()
	if got, ok := impl.SplitPlan(p, most); ok || !isNothing(got) {
		t.Errorf("SplitPlan(%v, %d) is %v, %v", p, most, got, ok)
	}
}

func checkNotSwapped(t *testing.T, p impl.Plan, i int) {
	t.Helper()
	if got, ok := impl.SwapSteps(p, i); ok || !isNothing(got) {
		t.Errorf("SwapSteps(%v, %d) is %v, %v", p, i, got, ok)
	}
}

func checkLevel(t *testing.T, p impl.Plan, done int, want int) {
	t.Helper()
	if got := impl.LevelOf(p, done); got != want {
		t.Errorf("LevelOf(%v, %d) is %d, not %d", p, done, got, want)
	}
}

func checkDealt(t *testing.T, p impl.Plan, hands int, want [][]int) {
	t.Helper()
	if got, ok := impl.Deal(p, hands); !ok || !slices.EqualFunc(got, want, slices.Equal) {
		t.Errorf("Deal(%v, %d) is %v, %v, not %v", p, hands, got, ok, want)
	}
}

func checkNotDealt(t *testing.T, p impl.Plan, hands int) {
	t.Helper()
	if got, ok := impl.Deal(p, hands); ok || got != nil {
		t.Errorf("Deal(%v, %d) is %v, %v", p, hands, got, ok)
	}
	checkMakespan(t, p, hands, -1)
}

func checkMakespan(t *testing.T, p impl.Plan, hands int, want int) {
	t.Helper()
	if got := impl.Makespan(p, hands); got != want {
		t.Errorf("Makespan(%v, %d) is %d, not %d", p, hands, got, want)
	}
}

func checkCost(t *testing.T, p impl.Plan, want int) {
	t.Helper()
	if got := impl.PlanCost(p); got != want {
		t.Errorf("PlanCost(%v) is %d, not %d", p, got, want)
	}
}

// checkNoPlan takes an invalid plan and makes all calls that would do with a
// valid one.
func checkNoPlan(t *testing.T, p impl.Plan) {
	t.Helper()
	if isPlan(p) {
		t.Fatalf("the test takes %v for invalid", p)
	}
	checkPlanOk(t, p, false)
	checkCost(t, p, -1)
	for _, most := range []int{1, 1000, math.MaxInt} {
		checkNotSplit(t, p, most)
	}
	for _, i := range []int{0, len(p.Steps) - 2} {
		checkNotSwapped(t, p, i)
	}
	for _, done := range []int{0, 1, len(p.Steps) - 1, len(p.Steps)} {
		checkLevel(t, p, done, -1)
	}
	for _, hands := range []int{1, 2, 16} {
		checkNotDealt(t, p, hands)
	}
	checkNotRun(t, p, nil)
	for _, n := range permuted {
		if n == 1 || p.K < 0 || p.K > 9 || n == 1<<p.K {
			checkNotRun(t, p, make([]int, n))
		}
	}
}

func TestPlanExamples(t *testing.T) {
	p, ok := impl.MakePlan(0, 2, 1)
	if !ok || len(p.Steps) != 4 {
		t.Errorf("MakePlan(0, 2, 1) is %v, %v", p, ok)
	}
	if got := impl.StepCost(stepOf(0, 2, 5)); got != 3 {
		t.Errorf("StepCost({0, 2, 5}) is %d", got)
	}
	checkCost(t, p, 4)
	checkStep(t, 0, []int{1, 3, 2, 4}, stepOf(0, 0, 1), []int{4, 15, 2, 4})
	checkRun(t, p, []int{1, 2, 3, 4}, []int{10, 6, 15, 7})
	two, ok := impl.MakePlan(0, 2, 2)
	if !ok || len(two.Steps) != 2 {
		t.Errorf("MakePlan(0, 2, 2) is %v, %v", two, ok)
	}
	checkSplitPlan(t, two, 1, p)
	checkLevel(t, p, 2, 1)
	checkDealt(t, p, 2, [][]int{{0, 2}, {1, 3}})
	checkMakespan(t, p, 2, 2)
}

func TestPlanOk(t *testing.T) {
	eachPlan(func(p impl.Plan) {
		if !isPlan(p) {
			t.Fatalf("the test takes %v for valid", p)
		}
		checkPlanOk(t, p, true)
	})
}

// What is returned must not hang on the order in which a map is gone through.
func TestPlanOkIsRepeatable(t *testing.T) {
	overlapping := impl.Plan{K: 3, Steps: []impl.Step{
		stepOf(0, 0, 4), stepOf(1, 0, 2), stepOf(1, 1, 4), stepOf(1, 2, 4), stepOf(2, 0, 1), stepOf(2, 2, 4),
	}}
	valid := planFrom(0, 4, func(level int, size int) []impl.Step { return shuffled(rangesOf(level, size, 1), level) })
	for range 200 {
		checkPlanOk(t, overlapping, false)
		checkPlanOk(t, valid, true)
	}
}

// With one element there is no level, so that a plan has no steps.
func TestPlansOfOneElement(t *testing.T) {
	for f, field := range fields {
		empty := impl.Plan{F: f}
		checkPlanOk(t, empty, true)
		checkPlanOk(t, impl.Plan{F: f, Steps: []impl.Step{}}, true)
		for _, most := range []int{1, 2, 1000, math.MaxInt} {
			checkMade(t, f, 0, most, empty)
			checkSplitPlan(t, empty, most, empty)
		}
		checkCost(t, empty, 0)
		for _, x := range samples(f)[:17] {
			checkRun(t, empty, []int{x}, []int{x})
		}
		checkLevel(t, empty, 0, 0)
		checkLevel(t, empty, 1, -1)
		checkLevel(t, empty, -1, -1)
		for hands := 1; hands <= 16; hands++ {
			checkDealt(t, empty, hands, make([][]int, hands))
			checkMakespan(t, empty, hands, 0)
		}
		for _, i := range []int{0, -1, 1, math.MinInt, math.MaxInt} {
			checkNotSwapped(t, empty, i)
		}
		for _, s := range []impl.Step{{}, stepOf(0, 0, 1), stepOf(-1, 0, 1), stepOf(0, -1, 0), stepOf(0, 1, 1), stepOf(1, 0, 1), stepOf(math.MinInt, math.MinInt, math.MaxInt)} {
			checkNoPlan(t, impl.Plan{F: f, Steps: []impl.Step{s}})
			checkNoPlan(t, impl.Plan{F: f, Steps: []impl.Step{s, s}})
			checkNoStep(t, f, []int{field.p - 1}, s)
		}
	}
}

// eachList calls check for every list of at most most steps from the choice.
func eachList(choice []impl.Step, most int, list []impl.Step, check func(steps []impl.Step)) {
	check(list)
	if most == 0 {
		return
	}
	for _, s := range choice {
		eachList(choice, most-1, append(slices.Clip(list), s), check)
	}
}

// stepsBetween returns all steps whose level is in first..last and whose ranges
// are in low..high, the empty ones and those from behind their end too.
func stepsBetween(first int, last int, low int, high int) []impl.Step {
	var list []impl.Step
	for level := first; level <= last; level++ {
		for from := low; from <= high; from++ {
			for to := low; to <= high; to++ {
				list = append(list, stepOf(level, from, to))
			}
		}
	}
	return list
}

func isProper(s impl.Step) bool { return s.From < s.To }

func TestPlanOkOfAllShortLists(t *testing.T) {
	eachList(stepsBetween(-1, 1, -1, 2), 3, nil, func(steps []impl.Step) {
		p := impl.Plan{K: 1, Steps: steps}
		checkPlanOk(t, p, isPlan(p))
	})
	eachList(stepsBetween(-1, 2, -1, 3), 2, nil, func(steps []impl.Step) {
		p := impl.Plan{F: 1, K: 2, Steps: steps}
		checkPlanOk(t, p, isPlan(p))
	})
	var proper []impl.Step
	for _, s := range stepsBetween(0, 1, 0, 2) {
		if isProper(s) {
			proper = append(proper, s)
		}
	}
	valid := 0
	eachList(proper, 6, nil, func(steps []impl.Step) {
		p := impl.Plan{F: 2, K: 2, Steps: steps}
		checkPlanOk(t, p, isPlan(p))
		if isPlan(p) {
			valid++
		}
	})
	// Each of two levels is whole, or in two steps in either order.
	if valid != 9 {
		t.Errorf("%d plans for 4 elements are valid", valid)
	}
}

// Every list of steps on one of three levels, where the two others are whole.
func TestPlanOkOfOneLevel(t *testing.T) {
	for level := range 3 {
		var choice []impl.Step
		for _, s := range stepsBetween(level, level, 0, 4) {
			if isProper(s) {
				choice = append(choice, s)
			}
		}
		valid := 0
		eachList(choice, 4, nil, func(steps []impl.Step) {
			p := withMore(withoutStep(rangedPlan(3, 3, 4), level), level, steps...)
			checkPlanOk(t, p, isPlan(p))
			if isPlan(p) {
				valid++
			}
		})
		// The ordered divisions of four butterflies in every order of the steps.
		if valid != 1+3*2+3*6+24 {
			t.Errorf("%d plans are valid on level %d", valid, level)
		}
	}
}

// One field of one step is another number, or two steps are exchanged.
func TestPlanOkOfChangedPlans(t *testing.T) {
	refused := 0
	eachPlan(func(p impl.Plan) {
		if p.K == 0 {
			return
		}
		source := numbers(len(p.Steps) + 10*p.K + p.F)
		for range 40 {
			i, j := element(len(p.Steps), large(source.next())), element(len(p.Steps), large(source.next()))
			by := element(5, large(source.next())) - 2
			s, other := p.Steps[i], p.Steps[j]
			for _, changed := range []impl.Plan{
				withStep(p, i, stepOf(s.Level+by, s.From, s.To)),
				withStep(p, i, stepOf(s.Level, s.From+by, s.To)),
				withStep(p, i, stepOf(s.Level, s.From, s.To+by)),
				withStep(p, i, stepOf(s.Level, s.From+by, s.To+by)),
				withStep(withStep(p, i, other), j, s),
				withStep(p, i, other),
			} {
				checkPlanOk(t, changed, isPlan(changed))
				if !isPlan(changed) {
					refused++
				}
			}
		}
	})
	if refused < 1000 {
		t.Errorf("only %d changed plans are invalid", refused)
	}
}

func TestMostSteps(t *testing.T) {
	for f := range fields {
		for k := 8; k <= mostListed(f); k++ {
			p, over := fullPlan(f, k), overfullPlan(f, k)
			if len(p.Steps) != impl.MaxSteps || len(over.Steps) != impl.MaxSteps+1 {
				t.Fatalf("%d and %d steps", len(p.Steps), len(over.Steps))
			}
			checkPlanOk(t, p, true)
			checkCost(t, p, k*sizeOf(k))
			v := someVector(fields[f].p, 1<<k, 1)
			checkRun(t, p, v, forwardOf(f, v))
			checkNoPlan(t, over)
			checkNoPlan(t, rangedPlan(f, k, 1))
		}
	}
}

// Plans of fewer than MaxSteps steps, but of one for each butterfly.
func TestOneStepForEachButterfly(t *testing.T) {
	for f := range fields {
		for k := range min(mostListed(f), 7) + 1 {
			p, ok := impl.MakePlan(f, k, 1)
			if !ok || len(p.Steps) != k*sizeOf(k) {
				t.Errorf("MakePlan(%d, %d, 1) is %v, %v", f, k, p, ok)
			}
			for i, s := range p.Steps {
				if want := stepOf(i/sizeOf(k), i%sizeOf(k), i%sizeOf(k)+1); s != want {
					t.Errorf("MakePlan(%d, %d, 1) has %v at %d", f, k, s, i)
				}
			}
		}
	}
}

// Every most up to more than a level has, and the greatest integers.
func TestMakePlan(t *testing.T) {
	for f := range fields {
		for k := range mostListed(f) + 1 {
			greatest := []int{1000, 1 << 32, 1<<32 + 1, 1 << 62, math.MaxInt - 255, math.MaxInt - 1, math.MaxInt}
			for most := 1; most <= sizeOf(k)+3; most++ {
				greatest = append(greatest, most)
			}
			for _, most := range greatest {
				if want := rangedPlan(f, k, most); len(want.Steps) > 600 {
					checkNotMade(t, f, k, most)
				} else {
					checkMade(t, f, k, most, want)
				}
			}
		}
	}
}

func TestMakePlanOfManySteps(t *testing.T) {
	for _, c := range []struct{ k, most, steps int }{
		{7, 1, 448}, {8, 2, 512}, {9, 4, 576}, {9, 5, 468}, {8, 3, 344}, {9, 256, 9}, {9, 255, 18}, {9, math.MaxInt, 9},
	} {
		for f := 4; f < len(fields); f++ {
			p, ok := impl.MakePlan(f, c.k, c.most)
			if !ok || len(p.Steps) != c.steps || !isPlan(p) {
				t.Errorf("MakePlan(%d, %d, %d) has %d steps, %v", f, c.k, c.most, len(p.Steps), ok)
			}
		}
	}
	for f := 4; f < len(fields); f++ {
		checkNotMade(t, f, 8, 1)
		checkNotMade(t, f, 9, 1)
		checkNotMade(t, f, 9, 2)
		checkNotMade(t, f, 9, 3)
	}
}

// The last range of a level has what is left.
func TestMakePlanWithAShorterRange(t *testing.T) {
	checkMade(t, 0, 4, 3, impl.Plan{F: 0, K: 4, Steps: []impl.Step{
		stepOf(0, 0, 3), stepOf(0, 3, 6), stepOf(0, 6, 8),
		stepOf(1, 0, 3), stepOf(1, 3, 6), stepOf(1, 6, 8),
		stepOf(2, 0, 3), stepOf(2, 3, 6), stepOf(2, 6, 8),
		stepOf(3, 0, 3), stepOf(3, 3, 6), stepOf(3, 6, 8),
	}})
	checkMade(t, 8, 3, 3, impl.Plan{F: 8, K: 3, Steps: []impl.Step{
		stepOf(0, 0, 3), stepOf(0, 3, 4), stepOf(1, 0, 3), stepOf(1, 3, 4), stepOf(2, 0, 3), stepOf(2, 3, 4),
	}})
}

// noMosts are numbers of butterflies that no range has.
var noMosts = []int{0, -1, -2, -256, -1 << 32, -1 << 62, math.MinInt, math.MinInt + 1}

func TestNoMakePlan(t *testing.T) {
	for f := range fields {
		for k := range mostListed(f) + 1 {
			for _, most := range noMosts {
				checkNotMade(t, f, k, most)
			}
		}
		for _, k := range append([]int{mostListed(f) + 1, 10, 11}, noLogs...) {
			for _, most := range []int{1, 2, 512, math.MaxInt, 0, math.MinInt} {
				checkNotMade(t, f, k, most)
			}
		}
	}
	for _, f := range noFields {
		for _, k := range append([]int{0, 1, 2, 4, 9}, noLogs...) {
			for _, most := range []int{1, 2, 512, math.MaxInt, 0, math.MinInt} {
				checkNotMade(t, f, k, most)
			}
		}
	}
}

func TestStepCost(t *testing.T) {
	for _, c := range []struct{ from, to, want int }{
		{0, 0, 0}, {0, 1, 1}, {2, 5, 3}, {5, 2, 0}, {7, 7, 0}, {1, 0, 0}, {0, 256, 256}, {255, 256, 1}, {1000, 1003, 3},
		{-1, 0, 0}, {-1, 1, 0}, {-5, -2, 0}, {-2, -5, 0}, {0, -1, 0}, {3, -3, 0},
		{0, math.MaxInt, math.MaxInt}, {1, math.MaxInt, math.MaxInt - 1}, {math.MaxInt - 1, math.MaxInt, 1}, {math.MaxInt, math.MaxInt, 0},
		{math.MaxInt, 0, 0}, {math.MaxInt, math.MinInt, 0}, {math.MinInt, math.MaxInt, 0}, {math.MinInt, math.MinInt, 0},
		{math.MinInt, math.MinInt + 1, 0}, {math.MinInt, 0, 0}, {0, math.MinInt, 0}, {-1, math.MaxInt, 0}, {math.MinInt, 1, 0},
	} {
		for _, level := range []int{0, 1, 8, 9, -1, math.MaxInt, math.MinInt} {
			if got := impl.StepCost(stepOf(level, c.from, c.to)); got != c.want {
				t.Errorf("StepCost({%d, %d, %d}) is %d, not %d", level, c.from, c.to, got, c.want)
			}
		}
	}
}

func TestPlanCost(t *testing.T) {
	eachPlan(func(p impl.Plan) {
		sum := 0
		for _, s := range p.Steps {
			sum += impl.StepCost(s)
		}
		checkCost(t, p, sum)
		checkCost(t, p, p.K*sizeOf(p.K))
	})
}

// stepsOn returns steps of a level: all of its butterflies, the first one, the
// last one, one in the middle, and ranges that cross where a half ends.
func stepsOn(level int, size int) []impl.Step {
	list := []impl.Step{
		stepOf(level, 0, size), stepOf(level, 0, 1), stepOf(level, size-1, size), stepOf(level, size/2, size/2+1),
	}
	h := 1 << level
	for _, r := range [][2]int{{1, size}, {0, size - 1}, {h - 1, h + 1}, {h, 2 * h}, {h / 2, size - h/2}, {size / 3, size/3 + 2}, {h - 1, 2*h + 1}} {
		if r[0] >= 0 && r[0] < r[1] && r[1] <= size {
			list = append(list, stepOf(level, r[0], r[1]))
		}
	}
	return list
}

func TestRunStepIsItsDefinition(t *testing.T) {
	eachVector(func(f int, v []int) {
		k := impl.LogOf(len(v))
		for level := range k {
			for _, s := range stepsOn(level, sizeOf(k)) {
				checkStep(t, f, v, s, performed(f, v, s))
			}
		}
	})
}

func TestRunStepOfAllRanges(t *testing.T) {
	for f, field := range fields {
		for k := 1; k <= 4; k++ {
			v := someVector(field.p, 1<<k, 6)
			for _, s := range stepsBetween(0, k-1, 0, sizeOf(k)) {
				if isProper(s) {
					checkStep(t, f, v, s, performed(f, v, s))
				} else {
					checkNoStep(t, f, v, s)
				}
			}
		}
	}
}

// Each butterfly of every level, alone, in the longest vectors.
func TestRunStepOfEachButterfly(t *testing.T) {
	for f, field := range fields {
		k := mostListed(f)
		v := someVector(field.p, 1<<k, 5)
		for level := range k {
			whole := stageOf(f, v, level)
			h := 1 << level
			for b := range sizeOf(k) {
				i := b/h*2*h + b%h
				want := slices.Clone(v)
				want[i], want[i+h] = whole[i], whole[i+h]
				checkStep(t, f, v, stepOf(level, b, b+1), want)
			}
		}
	}
}

func TestRunStepOfAWholeLevelIsStage(t *testing.T) {
	eachVector(func(f int, v []int) {
		k := impl.LogOf(len(v))
		for level := range k {
			s := stepOf(level, 0, sizeOf(k))
			checkStep(t, f, v, s, stageOf(f, v, level))
			checkStep(t, f, v, s, impl.Stage(f, v, level))
		}
	})
}

// noSteps returns steps that no plan for 2^k elements has.
func noSteps(k int) []impl.Step {
	size := sizeOf(k)
	var list []impl.Step
	for _, level := range []int{-1, -2, k, k + 1, 9, 10, 63, 64, 1 << 32, -1 << 32, math.MaxInt, math.MinInt, math.MinInt + 1} {
		if level < 0 || level >= k {
			list = append(list, stepOf(level, 0, size), stepOf(level, 0, 1))
		}
	}
	for level := range k {
		for _, r := range [][2]int{
			{-1, size}, {-1, 1}, {-size, size}, {-1, 0}, {-2, -1}, {0, size + 1}, {size - 1, size + 1}, {size, size + 1},
			{0, 0}, {size, size}, {size - 1, size - 1}, {size / 2, size / 2}, {size, 0}, {1, 0}, {size, size - 1}, {0, -1},
			{0, 1 << 32}, {1 << 32, 1<<32 + 1}, {-1 << 32, 1}, {0, 1<<32 + 1},
			{math.MinInt, size}, {math.MinInt, math.MinInt + 1}, {math.MinInt, math.MinInt}, {math.MinInt, math.MaxInt},
			{0, math.MinInt}, {0, math.MaxInt}, {math.MaxInt, size}, {math.MaxInt - 1, math.MaxInt}, {math.MaxInt, math.MaxInt},
			{math.MaxInt, math.MinInt}, {math.MinInt, 1}, {size - 1, math.MaxInt},
		} {
			list = append(list, stepOf(level, r[0], r[1]))
		}
	}
	return list
}

func TestNoRunStep(t *testing.T) {
	for f, field := range fields {
		for _, n := range lengthsOf(f) {
			v := someVector(field.p, n, 2)
			for _, s := range noSteps(impl.LogOf(n)) {
				checkNoStep(t, f, v, s)
			}
		}
	}
}

func TestRunStepOfNoVector(t *testing.T) {
	steps := []impl.Step{{}, stepOf(0, 0, 1), stepOf(0, 0, 2), stepOf(1, 0, 1), stepOf(8, 0, 256), stepOf(9, 0, 512), stepOf(-1, 0, 1), stepOf(0, 1, 1)}
	for f := range fields {
		for _, wrong := range noVectors(f) {
			for _, s := range steps {
				checkNoStep(t, f, wrong, s)
			}
			if n := len(wrong); n > 1 {
				checkNoStep(t, f, wrong, stepOf(0, 0, n/2))
			}
		}
	}
	for _, f := range noFields {
		for _, n := range append([]int{0, 3, 1024}, permuted...) {
			for _, s := range steps {
				checkNoStep(t, f, make([]int, n), s)
			}
		}
		checkNoStep(t, f, nil, stepOf(0, 0, 1))
	}
}

func TestRunPlanIsForward(t *testing.T) {
	for f, field := range fields {
		for k, n := range lengthsOf(f) {
			plans := somePlans(f, k)
			for _, v := range someVectors(field.p, n) {
				want := forwardOf(f, v)
				if got := impl.Forward(f, v); !slices.Equal(got, want) {
					t.Errorf("Forward(%d, %v) is %v, not %v", f, v, got, want)
				}
				for _, p := range plans {
					checkRun(t, p, v, want)
				}
			}
		}
	}
}

// The steps one after the other: when those of a level are done, so is the
// Stage.
func TestRunStepsAreStagesAndForward(t *testing.T) {
	eachPlan(func(p impl.Plan) {
		v := someVector(fields[p.F].p, 1<<p.K, 3)
		got := impl.Permute(v)
		stage := got
		for i, s := range p.Steps {
			next, ok := impl.RunStep(p.F, got, s)
			if !ok {
				t.Fatalf("RunStep(%d, %v, %v) fails", p.F, got, s)
			}
			got = next
			if i+1 < len(p.Steps) && p.Steps[i+1].Level == s.Level {
				continue
			}
			stage = impl.Stage(p.F, stage, s.Level)
			if !slices.Equal(got, stage) {
				t.Errorf("%v: level %d of %v gives %v, not %v", p, s.Level, v, got, stage)
			}
		}
		if want := forwardOf(p.F, v); !slices.Equal(got, want) {
			t.Errorf("%v: the steps give %v of %v, not %v", p, got, v, want)
		}
		checkRun(t, p, v, got)
	})
}

func TestRunPlanOfNoVector(t *testing.T) {
	for f := range fields {
		for k, n := range lengthsOf(f) {
			p := rangedPlan(f, k, sizeOf(k))
			for _, wrong := range noVectors(f) {
				checkNotRun(t, p, wrong)
			}
			for _, other := range lengthsOf(f) {
				if other != n {
					checkNotRun(t, p, make([]int, other))
				}
			}
			checkNotRun(t, p, nil)
			for _, x := range noElements(fields[f].p) {
				for _, index := range []int{0, n / 2, n - 1} {
					checkNotRun(t, p, unit(n, index, x))
				}
			}
			checkRun(t, p, make([]int, n), make([]int, n))
		}
	}
}

// A vector over another field, with elements that only that one has.
func TestRunPlanOfAnotherField(t *testing.T) {
	for f, field := range fields {
		for other, row := range fields {
			if row.p <= field.p {
				continue
			}
			for k, n := range lengthsOf(f) {
				v := unit(n, n-1, field.p)
				checkNotRun(t, rangedPlan(f, k, 2), v)
				if k < 8 {
					checkRun(t, rangedPlan(other, k, 2), v, forwardOf(other, v))
				}
			}
		}
	}
}

// mostsOf are numbers of butterflies by which plans are split.
func mostsOf(k int) []int {
	return []int{1, 2, 3, 4, 5, 7, sizeOf(k)/4 + 1, max(sizeOf(k)-1, 1), max(sizeOf(k), 1), sizeOf(k) + 1, 1 << 32, 1 << 62, math.MaxInt - 255, math.MaxInt - 1, math.MaxInt}
}

func TestSplitPlan(t *testing.T) {
	split, refused := 0, 0
	eachPlan(func(p impl.Plan) {
		v := someVector(fields[p.F].p, 1<<p.K, 2)
		forward := impl.Forward(p.F, v)
		for _, most := range mostsOf(p.K) {
			want := splitOf(p, most)
			if len(want.Steps) > 600 {
				refused++
				checkNotSplit(t, p, most)
				continue
			}
			split++
			checkSplitPlan(t, p, most, want)
			checkPlanOk(t, want, true)
			checkCost(t, want, impl.PlanCost(p))
			checkRun(t, want, v, forward)
		}
	})
	if split < 1000 || refused < 20 {
		t.Errorf("%d plans are split and %d are not", split, refused)
	}
}

// The longest step decides whether there is anything to split.
func TestSplitPlanByTheLongestStep(t *testing.T) {
	eachPlan(func(p impl.Plan) {
		longest := 0
		for _, s := range p.Steps {
			longest = max(longest, lengthOf(s))
		}
		if longest == 0 {
			return
		}
		for _, most := range []int{longest, longest + 1, 2 * longest, math.MaxInt} {
			checkSplitPlan(t, p, most, p)
		}
		if longest > 1 && len(p.Steps) < 400 {
			got, ok := impl.SplitPlan(p, longest-1)
			if !ok || len(got.Steps) <= len(p.Steps) || !isPlan(got) {
				t.Errorf("SplitPlan(%v, %d) is %v, %v", p, longest-1, got, ok)
			}
		}
	})
}

// Every step is divided where it is, whatever the order of the steps.
func TestSplitPlanKeepsPositions(t *testing.T) {
	p := impl.Plan{F: 3, K: 3, Steps: []impl.Step{
		stepOf(0, 3, 4), stepOf(0, 0, 3), stepOf(1, 0, 4), stepOf(2, 1, 4), stepOf(2, 0, 1),
	}}
	checkSplitPlan(t, p, 2, impl.Plan{F: 3, K: 3, Steps: []impl.Step{
		stepOf(0, 3, 4), stepOf(0, 0, 2), stepOf(0, 2, 3), stepOf(1, 0, 2), stepOf(1, 2, 4), stepOf(2, 1, 3), stepOf(2, 3, 4), stepOf(2, 0, 1),
	}})
	checkSplitPlan(t, p, 3, impl.Plan{F: 3, K: 3, Steps: []impl.Step{
		stepOf(0, 3, 4), stepOf(0, 0, 3), stepOf(1, 0, 3), stepOf(1, 3, 4), stepOf(2, 1, 4), stepOf(2, 0, 1),
	}})
	checkSplitPlan(t, p, 4, p)
}

// Splits into MaxSteps steps, and into one more.
func TestSplitPlanIntoMostSteps(t *testing.T) {
	for f := range fields {
		for k := 8; k <= mostListed(f); k++ {
			most, p, over := 2, singlesFirst(f, k, 128, 48), singlesFirst(f, k, 128, 50)
			if k == 9 {
				most, p, over = 4, singlesFirst(f, k, 32), singlesFirst(f, k, 33)
			}
			want := splitOf(p, most)
			if len(want.Steps) != impl.MaxSteps || len(splitOf(over, most).Steps) != impl.MaxSteps+1 {
				t.Fatalf("%d and %d steps", len(want.Steps), len(splitOf(over, most).Steps))
			}
			checkPlanOk(t, over, true)
			checkSplitPlan(t, p, most, want)
			checkNotSplit(t, over, most)
			checkSplitPlan(t, fullPlan(f, k), 256, fullPlan(f, k))
			checkNotSplit(t, fullPlan(f, k), 1)
			checkNotSplit(t, rangedPlan(f, k, 256), 1)
		}
	}
}

func TestNoSplitPlan(t *testing.T) {
	eachPlan(func(p impl.Plan) {
		for _, most := range noMosts {
			checkNotSplit(t, p, most)
		}
	})
}

func TestSwapSteps(t *testing.T) {
	swapped, refused := 0, 0
	eachPlan(func(p impl.Plan) {
		v := someVector(fields[p.F].p, 1<<p.K, 4)
		forward := impl.Forward(p.F, v)
		for i := range len(p.Steps) - 1 {
			first, second := p.Steps[i], p.Steps[i+1]
			if first.Level != second.Level {
				refused++
				checkNotSwapped(t, p, i)
				continue
			}
			swapped++
			want := withStep(withStep(p, i, second), i+1, first)
			got, ok := impl.SwapSteps(p, i)
			if !ok || !samePlan(got, want) {
				t.Errorf("SwapSteps(%v, %d) is %v, %v, not %v", p, i, got, ok, want)
			}
			if i < 20 || i > len(p.Steps)-20 || i%16 == 0 {
				checkPlanOk(t, got, true)
				checkCost(t, got, impl.PlanCost(p))
				checkRun(t, got, v, forward)
			}
		}
	})
	if swapped < 1000 || refused < 1000 {
		t.Errorf("%d steps are exchanged and %d are not", swapped, refused)
	}
}

// The first two and the last two steps, and two of different levels.
func TestSwapStepsAtTheEnds(t *testing.T) {
	a, b, c, d := stepOf(0, 0, 1), stepOf(0, 1, 2), stepOf(1, 0, 1), stepOf(1, 1, 2)
	p := impl.Plan{F: 5, K: 2, Steps: []impl.Step{a, b, c, d}}
	for _, example := range []struct {
		i    int
		want []impl.Step
	}{{0, []impl.Step{b, a, c, d}}, {2, []impl.Step{a, b, d, c}}} {
		got, ok := impl.SwapSteps(p, example.i)
		if !ok || !samePlan(got, impl.Plan{F: 5, K: 2, Steps: example.want}) {
			t.Errorf("SwapSteps(%v, %d) is %v, %v", p, example.i, got, ok)
		}
		back, ok := impl.SwapSteps(got, example.i)
		if !ok || !samePlan(back, p) {
			t.Errorf("SwapSteps(%v, %d) is %v, %v", got, example.i, back, ok)
		}
	}
	checkNotSwapped(t, p, 1)
}

func TestNoSwapSteps(t *testing.T) {
	eachPlan(func(p impl.Plan) {
		count := len(p.Steps)
		for _, i := range []int{-1, -2, -count, count - 1, count, count + 1, 1 << 32, -1 << 32, 1 << 62, math.MaxInt, math.MaxInt - 1, math.MinInt, math.MinInt + 1} {
			if i < 0 || i >= count-1 {
				checkNotSwapped(t, p, i)
			}
		}
	})
}

func TestLevelOf(t *testing.T) {
	eachPlan(func(p impl.Plan) {
		for done, s := range p.Steps {
			checkLevel(t, p, done, s.Level)
		}
		count := len(p.Steps)
		checkLevel(t, p, count, p.K)
		checkLevel(t, p, 0, 0)
		for _, done := range []int{-1, -2, -count - 1, count + 1, count + 2, 2*count + 1, 1 << 32, -1 << 32, 1 << 62, math.MaxInt, math.MaxInt - 1, math.MinInt, math.MinInt + 1} {
			checkLevel(t, p, done, -1)
		}
	})
}

// Workers of all numbers, also more than a level has steps.
func TestDeal(t *testing.T) {
	eachPlan(func(p impl.Plan) {
		for hands := 1; hands <= 16; hands++ {
			want := dealtOf(p, hands)
			checkDealt(t, p, hands, want)
			checkMakespan(t, p, hands, makespanOf(p, want))
		}
	})
}

// Together the workers have every step once, each in ascending order.
func TestDealtSteps(t *testing.T) {
	eachPlan(func(p impl.Plan) {
		for _, hands := range []int{1, 2, 3, 7, 16} {
			dealt, ok := impl.Deal(p, hands)
			if !ok || len(dealt) != hands {
				t.Fatalf("Deal(%v, %d) is %v, %v", p, hands, dealt, ok)
			}
			for hand, indices := range dealt {
				if !slices.IsSorted(indices) {
					t.Errorf("Deal(%v, %d) gives %v to %d", p, hands, indices, hand)
				}
			}
			together := slices.Concat(dealt...)
			slices.Sort(together)
			for i, index := range together {
				if i != index {
					t.Errorf("Deal(%v, %d) lacks or repeats %d", p, hands, i)
					break
				}
			}
			if len(together) != len(p.Steps) {
				t.Errorf("Deal(%v, %d) has %d of %d steps", p, hands, len(together), len(p.Steps))
			}
			checkMakespan(t, p, hands, makespanOf(p, dealt))
		}
	})
}

// On each level one worker after the other runs its steps, the last one first.
func TestDealtStepsAreForward(t *testing.T) {
	eachPlan(func(p impl.Plan) {
		v := someVector(fields[p.F].p, 1<<p.K, 5)
		want := impl.Forward(p.F, v)
		for _, hands := range []int{2, 5, 16} {
			dealt, _ := impl.Deal(p, hands)
			got := impl.Permute(v)
			for level := range p.K {
				for _, indices := range slices.Backward(dealt) {
					for _, i := range indices {
						if p.Steps[i].Level == level {
							got, _ = impl.RunStep(p.F, got, p.Steps[i])
						}
					}
				}
			}
			if !slices.Equal(got, want) {
				t.Errorf("%v for %d workers: %v becomes %v, not %v", p, hands, v, got, want)
			}
		}
	})
}

func TestDealToOneAndToSixteen(t *testing.T) {
	p := rangedPlan(4, 3, 1)
	checkDealt(t, p, 1, [][]int{{0, 1, 2, 3, 4, 5, 6, 7, 8, 9, 10, 11}})
	checkDealt(t, p, 3, [][]int{{0, 3, 4, 7, 8, 11}, {1, 5, 9}, {2, 6, 10}})
	checkDealt(t, p, 4, [][]int{{0, 4, 8}, {1, 5, 9}, {2, 6, 10}, {3, 7, 11}})
	many := make([][]int, 16)
	for hand := range 4 {
		many[hand] = []int{hand, 4 + hand, 8 + hand}
	}
	checkDealt(t, p, 16, many)
}

// Steps of different lengths: how many butterflies a worker has hangs on their
// order.
func TestMakespan(t *testing.T) {
	lower := []impl.Step{stepOf(0, 0, 3), stepOf(0, 3, 4)}
	for _, c := range []struct {
		middle []impl.Step
		want   []int
	}{
		{[]impl.Step{stepOf(1, 0, 1), stepOf(1, 1, 2), stepOf(1, 2, 4)}, []int{12, 10, 9, 9}},
		{[]impl.Step{stepOf(1, 0, 1), stepOf(1, 2, 4), stepOf(1, 1, 2)}, []int{12, 9, 9, 9}},
		{[]impl.Step{stepOf(1, 2, 4), stepOf(1, 0, 1), stepOf(1, 1, 2)}, []int{12, 10, 9, 9}},
		{[]impl.Step{stepOf(1, 0, 4)}, []int{12, 11, 11, 11}},
		{[]impl.Step{stepOf(1, 3, 4), stepOf(1, 2, 3), stepOf(1, 1, 2), stepOf(1, 0, 1)}, []int{12, 9, 9, 8}},
	} {
		for f := range fields {
			p := impl.Plan{F: f, K: 3, Steps: slices.Concat(lower, c.middle, []impl.Step{stepOf(2, 0, 4)})}
			for i, want := range c.want {
				checkMakespan(t, p, i+1, want)
			}
			checkMakespan(t, p, 16, c.want[len(c.want)-1])
		}
	}
}

func TestNoDeal(t *testing.T) {
	eachPlan(func(p impl.Plan) {
		for _, hands := range []int{0, 17, 18, 32, -1, -2, -16, 1 << 32, 1<<32 + 1, -1 << 32, 1 << 62, math.MaxInt, math.MinInt, math.MinInt + 1} {
			checkNotDealt(t, p, hands)
		}
	})
}

// Plans that would do in another field, or for another K.
func TestPlansOfNoFieldOrK(t *testing.T) {
	for _, f := range noFields {
		for _, k := range []int{0, 1, 2, 4, 7} {
			for _, p := range []impl.Plan{rangedPlan(f, k, 1), rangedPlan(f, k, 512), {F: f, K: k}} {
				checkNoPlan(t, p)
			}
		}
		checkNoPlan(t, impl.Plan{F: f, K: -1})
		checkNoPlan(t, impl.Plan{F: f, K: f})
	}
	for f := range fields {
		for k := mostListed(f) + 1; k <= 12; k++ {
			checkNoPlan(t, rangedPlan(f, k, sizeOf(k)))
			checkNoPlan(t, rangedPlan(f, k, max(sizeOf(k)/16, 1)))
			checkNoPlan(t, impl.Plan{F: f, K: k})
		}
		for k := range mostListed(f) + 1 {
			steps := rangedPlan(f, k, max(sizeOf(k)/2, 1)).Steps
			for _, other := range append([]int{k - 1, k + 1}, noLogs...) {
				if other != 0 || k > 1 {
					checkNoPlan(t, impl.Plan{F: f, K: other, Steps: steps})
				}
			}
			if k > 0 {
				checkNoPlan(t, impl.Plan{F: f, K: k})
				checkNoPlan(t, impl.Plan{F: f, K: k, Steps: []impl.Step{}})
				checkNoPlan(t, impl.Plan{F: f, K: 0, Steps: steps})
			}
		}
		for _, k := range noLogs {
			checkNoPlan(t, impl.Plan{F: f, K: k})
		}
	}
}

// eachIndex calls check for the first and the last step of a plan and for some
// on every level.
func eachIndex(p impl.Plan, check func(i int)) {
	last := len(p.Steps) - 1
	for i, s := range p.Steps {
		if i == 0 || i == last || p.Steps[i-1].Level != s.Level || p.Steps[i+1].Level != s.Level || i%37 == 5 {
			check(i)
		}
	}
}

func TestPlansOfNoSteps(t *testing.T) {
	for f := range fields {
		for _, k := range []int{1, 2, mostListed(f)} {
			plans := somePlans(f, k)
			for _, p := range []impl.Plan{plans[0], plans[len(plans)-1]} {
				eachIndex(p, func(i int) {
					s := p.Steps[i]
					for _, wrong := range noSteps(k) {
						if k < 3 || wrong.Level == s.Level || wrong.Level < 0 || wrong.Level >= k {
							checkPlanOk(t, withStep(p, i, wrong), false)
						}
					}
					for _, x := range []int{-1, math.MinInt, math.MaxInt, 1 << 32, -1 << 32} {
						checkNoPlan(t, withStep(p, i, stepOf(x, s.From, s.To)))
						checkNoPlan(t, withStep(p, i, stepOf(s.Level, x, s.To)))
						checkNoPlan(t, withStep(p, i, stepOf(s.Level, s.From, x)))
					}
					checkNoPlan(t, withStep(p, i, stepOf(k, s.From, s.To)))
					checkNoPlan(t, withStep(p, i, stepOf(s.Level, s.From, sizeOf(k)+1)))
					checkNoPlan(t, withStep(p, i, stepOf(s.Level, s.From, s.From)))
					checkNoPlan(t, withStep(p, i, stepOf(s.Level, s.To, s.From)))
					checkNoPlan(t, withStep(p, i, impl.Step{}))
					checkNoPlan(t, withMore(p, i, impl.Step{}))
					checkNoPlan(t, withMore(p, i+1, stepOf(s.Level, s.To, s.To)))
				})
			}
		}
	}
}

// Steps whose levels decrease, though each butterfly is in exactly one.
func TestPlansOfDecreasingLevels(t *testing.T) {
	eachTellingPlan(func(p impl.Plan) {
		if p.K == 1 {
			return
		}
		reversed := impl.Plan{F: p.F, K: p.K, Steps: slices.Clone(p.Steps)}
		slices.Reverse(reversed.Steps)
		checkNoPlan(t, reversed)
		for i := range len(p.Steps) - 1 {
			if first, second := p.Steps[i], p.Steps[i+1]; first.Level < second.Level {
				checkNoPlan(t, withStep(withStep(p, i, second), i+1, first))
			}
		}
		last := len(p.Steps) - 1
		checkNoPlan(t, withMore(withoutStep(p, last), 0, p.Steps[last]))
		checkNoPlan(t, withMore(withoutStep(p, 0), last, p.Steps[0]))
	})
}

// A butterfly is in no step, on every level: its step is missing, or too short
// at either end.
func TestPlansWithoutAButterfly(t *testing.T) {
	eachTellingPlan(func(p impl.Plan) {
		eachIndex(p, func(i int) {
			s := p.Steps[i]
			checkNoPlan(t, withoutStep(p, i))
			if lengthOf(s) > 1 {
				checkNoPlan(t, withStep(p, i, stepOf(s.Level, s.From+1, s.To)))
				checkNoPlan(t, withStep(p, i, stepOf(s.Level, s.From, s.To-1)))
			}
			if lengthOf(s) > 2 {
				middle := s.From + lengthOf(s)/2
				checkNoPlan(t, withMore(withStep(p, i, stepOf(s.Level, s.From, middle)), i+1, stepOf(s.Level, middle+1, s.To)))
			}
		})
	})
}

// A butterfly is in two steps, on every level: a step occurs twice, is too long
// at either end, or another one is inside of it.
func TestPlansWithAButterflyTwice(t *testing.T) {
	eachTellingPlan(func(p impl.Plan) {
		if len(p.Steps) == impl.MaxSteps {
			return
		}
		eachIndex(p, func(i int) {
			s := p.Steps[i]
			checkNoPlan(t, withMore(p, i, s))
			checkNoPlan(t, withMore(p, i+1, stepOf(s.Level, s.From, s.From+1)))
			checkNoPlan(t, withMore(p, i, stepOf(s.Level, s.To-1, s.To)))
			checkNoPlan(t, withMore(p, i, stepOf(s.Level, 0, sizeOf(p.K))))
			if s.From > 0 {
				checkNoPlan(t, withStep(p, i, stepOf(s.Level, s.From-1, s.To)))
			}
			if s.To < sizeOf(p.K) {
				checkNoPlan(t, withStep(p, i, stepOf(s.Level, s.From, s.To+1)))
			}
		})
	})
}

// One butterfly is missing and another one is there twice, so that the steps
// cost what those of a valid plan cost, or start and end where they do.
func TestPlansOfTheSameCost(t *testing.T) {
	for _, level := range []int{0, 1, 2} {
		for _, middle := range [][]impl.Step{
			{stepOf(level, 0, 2), stepOf(level, 1, 3)},
			{stepOf(level, 1, 3), stepOf(level, 0, 2)},
			{stepOf(level, 0, 2), stepOf(level, 0, 2)},
			{stepOf(level, 2, 4), stepOf(level, 2, 4)},
			{stepOf(level, 1, 3), stepOf(level, 2, 4)},
			{stepOf(level, 0, 3), stepOf(level, 0, 1)},
			{stepOf(level, 0, 3), stepOf(level, 2, 3)},
			{stepOf(level, 1, 4), stepOf(level, 3, 4)},
			{stepOf(level, 0, 1), stepOf(level, 1, 2), stepOf(level, 1, 2), stepOf(level, 3, 4)},
			{stepOf(level, 0, 1), stepOf(level, 0, 1), stepOf(level, 2, 3), stepOf(level, 3, 4)},
			{stepOf(level, 0, 4), stepOf(level, 2, 4)},
			{stepOf(level, 0, 2), stepOf(level, 0, 4)},
			{stepOf(level, 0, 4), stepOf(level, 0, 2)},
			{stepOf(level, 0, 2), stepOf(level, 2, 4), stepOf(level, 1, 2)},
		} {
			for f := range fields {
				checkNoPlan(t, withMore(withoutStep(rangedPlan(f, 3, 4), level), level, middle...))
			}
		}
	}
	// One level is missing as a whole and another one is there twice.
	for f := range fields {
		for k := 2; k <= mostListed(f); k++ {
			whole := rangedPlan(f, k, sizeOf(k))
			for level := range k - 1 {
				checkNoPlan(t, withStep(whole, level, whole.Steps[level+1]))
				checkNoPlan(t, withStep(whole, level+1, whole.Steps[level]))
			}
		}
	}
}

// roomy returns a plan whose steps have room behind them.
func roomy(p impl.Plan) impl.Plan {
	room := impl.Step{Level: 7, From: 7, To: 7}
	p.Steps = append(slices.Clone(p.Steps), room, room, room)[:len(p.Steps)]
	return p
}

// checkPlanUntouched takes a plan that roomy has made, and what it was before.
func checkPlanUntouched(t *testing.T, name string, p impl.Plan, before impl.Plan) {
	t.Helper()
	room := impl.Step{Level: 7, From: 7, To: 7}
	count := len(p.Steps)
	if !samePlan(p, before) || !slices.Equal(p.Steps[count:count+3], []impl.Step{room, room, room}) {
		t.Errorf("%s changes its argument %v", name, before)
	}
}

// checkStepsApart is checkApart for lists of steps.
func checkStepsApart(t *testing.T, name string, result []impl.Step, others ...[]impl.Step) {
	t.Helper()
	var kept [][]impl.Step
	for _, list := range others {
		kept = append(kept, slices.Clone(list))
	}
	whole := result[:cap(result)]
	saved := slices.Clone(whole)
	for i := range whole {
		whole[i] = impl.Step{Level: -7, From: -7, To: -7}
	}
	for i, list := range others {
		if !slices.Equal(list, kept[i]) {
			t.Errorf("%s shares the memory of %v", name, kept[i])
		}
	}
	copy(whole, saved)
}

// planCalls are the functions that take a plan, with the lists and the steps
// that they return. A number is what they return beside.
var planCalls = []struct {
	name string
	call func(p impl.Plan, v []int) ([][]int, []impl.Step, int)
}{
	{"PlanOk", func(p impl.Plan, v []int) ([][]int, []impl.Step, int) { return nil, nil, asNumber(impl.PlanOk(p)) }},
	{"PlanCost", func(p impl.Plan, v []int) ([][]int, []impl.Step, int) { return nil, nil, impl.PlanCost(p) }},
	{"RunPlan", func(p impl.Plan, v []int) ([][]int, []impl.Step, int) {
		list, ok := impl.RunPlan(p, v)
		return [][]int{list}, nil, asNumber(ok)
	}},
	{"RunStep", func(p impl.Plan, v []int) ([][]int, []impl.Step, int) {
		if len(p.Steps) == 0 {
			return nil, nil, 0
		}
		list, ok := impl.RunStep(p.F, v, p.Steps[len(p.Steps)-1])
		return [][]int{list}, nil, asNumber(ok)
	}},
	{"SplitPlan by 1", splitCall(1)},
	{"SplitPlan by 3", splitCall(3)},
	{"SplitPlan by the greatest", splitCall(math.MaxInt)},
	{"SplitPlan by 0", splitCall(0)},
	{"SwapSteps at 0", swapCall(0)},
	{"SwapSteps at 1", swapCall(1)},
	{"SwapSteps at -1", swapCall(-1)},
	{"LevelOf", func(p impl.Plan, v []int) ([][]int, []impl.Step, int) { return nil, nil, impl.LevelOf(p, 1) }},
	{"Deal to 1", dealCall(1)},
	{"Deal to 3", dealCall(3)},
	{"Deal to 16", dealCall(16)},
	{"Deal to none", dealCall(0)},
	{"Makespan", func(p impl.Plan, v []int) ([][]int, []impl.Step, int) { return nil, nil, impl.Makespan(p, 3) }},
}

func splitCall(most int) func(impl.Plan, []int) ([][]int, []impl.Step, int) {
	return func(p impl.Plan, v []int) ([][]int, []impl.Step, int) {
		q, ok := impl.SplitPlan(p, most)
		return nil, q.Steps, asNumber(ok)
	}
}

func swapCall(i int) func(impl.Plan, []int) ([][]int, []impl.Step, int) {
	return func(p impl.Plan, v []int) ([][]int, []impl.Step, int) {
		q, ok := impl.SwapSteps(p, i)
		return nil, q.Steps, asNumber(ok)
	}
}

func dealCall(hands int) func(impl.Plan, []int) ([][]int, []impl.Step, int) {
	return func(p impl.Plan, v []int) ([][]int, []impl.Step, int) {
		dealt, ok := impl.Deal(p, hands)
		return dealt, nil, asNumber(ok)
	}
}

// Valid plans, and invalid ones that are refused.
func TestPlansShareNoMemory(t *testing.T) {
	eachPlan(func(valid impl.Plan) {
		for _, given := range []impl.Plan{valid, withMore(valid, len(valid.Steps), impl.Step{})} {
			before := someVector(fields[given.F].p, 1<<given.K, 6)
			p, v := roomy(given), append(slices.Clone(before), 7, 7, 7)[:len(before)]
			for _, c := range planCalls {
				lists, steps, _ := c.call(p, v)
				checkPlanUntouched(t, c.name, p, given)
				checkUntouched(t, c.name, v, before)
				checkStepsApart(t, c.name, steps, p.Steps[:len(p.Steps)+3])
				for i, list := range lists {
					checkApart(t, c.name, list, append(slices.Delete(slices.Clone(lists), i, i+1), v[:len(v)+3])...)
				}
			}
		}
	})
}

// A result stays as it is when the same call is made again: nothing is kept.
func TestPlansAreNewEachTime(t *testing.T) {
	eachPlan(func(p impl.Plan) {
		v := someVector(fields[p.F].p, 1<<p.K, 7)
		for _, c := range planCalls {
			lists, steps, first := c.call(p, v)
			keptSteps := slices.Clone(steps)
			var kept [][]int
			for _, list := range lists {
				kept = append(kept, slices.Clone(list))
				for i := range list {
					list[i] = -1
				}
			}
			clear(steps)
			again, stepsAgain, second := c.call(p, v)
			if first != second || !slices.Equal(stepsAgain, keptSteps) || !slices.EqualFunc(again, kept, slices.Equal) {
				t.Errorf("%s of %v is kept", c.name, p)
			}
			checkStepsApart(t, c.name, stepsAgain, steps)
			for i, list := range again {
				checkApart(t, c.name, list, lists[i])
			}
		}
	})
}

func TestMadePlansAreNewEachTime(t *testing.T) {
	for f := range fields {
		for k := range mostListed(f) + 1 {
			first, _ := impl.MakePlan(f, k, 4)
			kept := slices.Clone(first.Steps)
			second, _ := impl.MakePlan(f, k, 4)
			checkStepsApart(t, "MakePlan", first.Steps, second.Steps)
			clear(first.Steps)
			checkMade(t, f, k, 4, impl.Plan{F: f, K: k, Steps: kept})
		}
	}
}
