package world

import (
	"math"
	"math/big"
	"slices"
	"testing"

	"maquette/api"
	"maquette/bounds"
	"maquette/calc"
	"maquette/push"
	"maquette/shape"
	"maquette/touch"
	"maquette/vec"
)

const (
	one    = api.One
	most   = api.Fix(math.MaxInt64)
	lowest = api.Fix(math.MinInt64)

	far = 10_000 * one    // the greatest Pos
	mom = 1_000_000 * one // the greatest Mom
	end = 1_000 * one     // the greatest Len, and the greatest part of Gravity
)

func v(x, y api.Fix) api.Vec { return api.Vec{X: x, Y: y} }

// ball is one of radius 1.
func ball(mass api.Fix, pos, mom api.Vec) api.Body {
	return api.Body{Shape: api.Ball, Size: v(one, 0), Mass: mass, Pos: pos, Mom: mom}
}

// at is a ball of Mass 1 that rests; still is one that can't be moved.
func at(x, y api.Fix) api.Body    { return ball(one, v(x, y), v(0, 0)) }
func still(x, y api.Fix) api.Body { return ball(0, v(x, y), v(0, 0)) }

func crate(w, h, mass api.Fix, pos, mom api.Vec) api.Body {
	return api.Body{Shape: api.Crate, Size: v(w, h), Mass: mass, Pos: pos, Mom: mom}
}

func joint(a, b int, length api.Fix) api.Joint { return api.Joint{A: a, B: b, Len: length} }

func of(gravity api.Vec, l ...api.Body) World { return World{Gravity: gravity, Bodies: l} }

// held is w, with these joints.
func held(w World, l ...api.Joint) World {
	w.Joints = l
	return w
}

// thrown is what f panics with; nil, if it does not.
func thrown(f func()) (p any) {
	defer func() { p = recover() }()
	f()
	return nil
}

func same(a, b World) bool {
	return a.Gravity == b.Gravity && slices.Equal(a.Bodies, b.Bodies) && slices.Equal(a.Joints, b.Joints)
}

func zero(w World) bool { return same(w, World{}) }

// checkStep wants that behind a step the bodies of w are these, and all else is as it was; w, too.
func checkStep(t *testing.T, w World, want ...api.Body) {
	t.Helper()
	was := copied(w)
	got, err := Step(w)
	if err != api.OK || !same(got, World{Gravity: was.Gravity, Bodies: want, Joints: was.Joints}) {
		t.Errorf("Step of %v: %v, %d, not %v", was, got, err, want)
	}
	if !same(w, was) {
		t.Errorf("Step of %v wrote into it: %v", was, w)
	}
}

// checkFails wants that a step answers want, and the zero World, and leaves w as it was.
func checkFails(t *testing.T, w World, want api.Errno) {
	t.Helper()
	was := copied(w)
	got, err := Step(w)
	if err != want || !zero(got) {
		t.Errorf("Step of %v: %v, %d, not the zero World, %d", was, got, err, want)
	}
	if !same(w, was) {
		t.Errorf("Step of %v wrote into it: %v", was, w)
	}
}

// checkRun wants what Run tells beside a world, and that the world is want.
func checkRun(t *testing.T, w World, n int, want World, step int, errno api.Errno) {
	t.Helper()
	was := copied(w)
	got, at, err := Run(w, n)
	if !same(got, want) || at != step || err != errno {
		t.Errorf("Run of %v, %d: %v, %d, %d, not %v, %d, %d", was, n, got, at, err, want, step, errno)
	}
	if !same(w, was) {
		t.Errorf("Run of %v wrote into it: %v", was, w)
	}
}

// checkRight wants what Right tells; where it is false, Step and Run refuse.
func checkRight(t *testing.T, w World, want bool) {
	t.Helper()
	if got := Right(w); got != want {
		t.Errorf("Right of %v: %v", w, got)
	}
	if want {
		if got, err := Step(w); err == api.ErrArg {
			t.Errorf("Step of %v: %v, %d", w, got, err)
		}
		checkRun(t, w, 0, w, 0, api.OK)
		return
	}
	checkFails(t, w, api.ErrArg)
	checkRun(t, w, 0, World{}, 0, api.ErrArg)
	checkRun(t, w, 1, World{}, 1, api.ErrArg)
	checkRun(t, w, api.MaxSteps, World{}, 1, api.ErrArg)
	checkRun(t, w, api.MaxSteps+1, World{}, 0, api.ErrArg)
	checkRun(t, w, -1, World{}, 0, api.ErrArg)
}

func TestP1201RightBodies(t *testing.T) {
	checkRight(t, World{}, true)
	checkRight(t, World{Bodies: []api.Body{}, Joints: []api.Joint{}}, true)
	checkRight(t, of(v(0, 0), at(0, 0)), true)
	checkRight(t, of(v(0, 0), still(0, 0)), true)
	checkRight(t, of(v(0, 0), crate(one, one, one, v(0, 0), v(0, 0)), at(far, -far)), true)
	good := at(0, 0)
	for _, bad := range []api.Body{
		{},
		{Shape: 3, Size: v(one, one)},
		{Shape: api.Ball, Size: v(one, 1)},
		{Shape: api.Ball, Size: v(one/64-1, 0)},
		crate(one, end+1, 0, v(0, 0), v(0, 0)),
		ball(-one, v(0, 0), v(0, 0)),
		ball(10_000*one+1, v(0, 0), v(0, 0)),
		ball(one, v(far+1, 0), v(0, 0)),
		ball(one, v(0, -far-1), v(0, 0)),
		ball(one, v(0, 0), v(mom+1, 0)),
		ball(0, v(0, 0), v(0, 1)),
	} {
		if shape.Right(bad) {
			t.Errorf("%v may be: nothing is asked by it", bad)
		}
		checkRight(t, of(v(0, 0), bad), false)
		checkRight(t, of(v(0, 0), bad, good), false)
		checkRight(t, of(v(0, 0), good, bad), false)
		checkRight(t, of(v(0, 0), good, bad, good), false)
	}
}

func TestP1201RightJoints(t *testing.T) {
	two := func(l ...api.Joint) World { return held(of(v(0, 0), at(0, 0), at(5*one, 0)), l...) }
	for _, c := range []struct {
		j    api.Joint
		want bool
	}{
		{joint(0, 1, one), true}, {joint(1, 0, one), true},
		{joint(0, 0, one), false}, {joint(1, 1, one), false},
		{joint(2, 0, one), false}, {joint(0, 2, one), false}, {joint(2, 2, one), false}, {joint(2, 3, one), false},
		{joint(-1, 0, one), false}, {joint(1, -1, one), false}, {joint(-1, -2, one), false},
		{joint(math.MaxInt, 0, one), false}, {joint(0, math.MinInt, one), false},
		{joint(0, 1, 0), true}, {joint(0, 1, 1), true}, {joint(0, 1, -1), false}, {joint(0, 1, lowest), false},
		{joint(0, 1, end), true}, {joint(0, 1, end-1), true}, {joint(0, 1, end+1), false}, {joint(0, 1, most), false},
	} {
		checkRight(t, two(c.j), c.want)
		checkRight(t, two(joint(0, 1, 3), c.j), c.want)
		checkRight(t, two(c.j, joint(1, 0, 3)), c.want)
	}
	// Two joints may hold the same two; none is a place where no bodies are.
	checkRight(t, two(joint(0, 1, one), joint(0, 1, one), joint(1, 0, 2*one)), true)
	checkRight(t, held(World{}, joint(0, 1, 0)), false)
	checkRight(t, held(World{}, joint(0, 0, 0)), false)
	checkRight(t, held(of(v(0, 0), at(0, 0)), joint(0, 1, 0)), false)
	// A body that has no Mass is held as well.
	checkRight(t, held(of(v(0, 0), still(0, 0), still(0, 0)), joint(0, 1, 0)), true)
}

func TestP1201RightGravity(t *testing.T) {
	for _, c := range []struct {
		a    api.Fix
		want bool
	}{
		{0, true}, {1, true}, {-1, true},
		{end, true}, {end - 1, true}, {end + 1, false}, {most, false},
		{-end, true}, {-end + 1, true}, {-end - 1, false}, {lowest, false},
	} {
		for _, other := range []api.Fix{0, end, -end} {
			checkRight(t, of(v(c.a, other)), c.want)
			checkRight(t, of(v(other, c.a)), c.want)
			checkRight(t, of(v(c.a, other), at(0, 0)), c.want)
			checkRight(t, of(v(other, c.a), at(0, 0)), c.want)
		}
		checkRight(t, of(v(c.a, end+1)), false)
		checkRight(t, of(v(-end-1, c.a)), false)
	}
}

func TestP1201StepOfNothing(t *testing.T) {
	checkStep(t, World{})
	checkStep(t, of(v(end, -end)))
	checkStep(t, World{Bodies: []api.Body{}, Joints: []api.Joint{}})
}

func TestP1201StepOfOne(t *testing.T) {
	for _, mass := range []api.Fix{one / 64, one, 3 * one, 10_000 * one} {
		checkStep(t, of(v(0, 0), ball(mass, v(0, 0), v(mass, 0))), ball(mass, v(one/64, 0), v(mass, 0)))
		checkStep(t, of(v(0, 0), ball(mass, v(7, 9), v(0, -2*mass))), ball(mass, v(7, 9-one/32), v(0, -2*mass)))
		checkStep(t, of(v(0, 0), ball(mass, v(7, 9), v(0, 0))), ball(mass, v(7, 9), v(0, 0)))
	}
	checkStep(t, of(v(0, 0), crate(one, 2*one, 2*one, v(one, one), v(-4*one, one))), crate(one, 2*one, 2*one, v(one-one/32, one+one/128), v(-4*one, one)))
	// A speed is shared as a whole number, towards 0; it is that of the Mass.
	for _, c := range []struct{ mass, mom, far api.Fix }{
		{one, 63, 0}, {one, 64, 1}, {one, 127, 1}, {one, 128, 2}, {one, 6400, 100},
		{2 * one, 127, 0}, {2 * one, 128, 1}, {one / 2, 32, 1}, {one / 2, 31, 0}, {3 * one, 192, 1}, {3 * one, 191, 0},
	} {
		checkStep(t, of(v(0, 0), ball(c.mass, v(5, 5), v(c.mom, -c.mom))), ball(c.mass, v(5+c.far, 5-c.far), v(c.mom, -c.mom)))
	}
}

func TestP1201StepOfGravity(t *testing.T) {
	// Each falls as far, whatever its Mass; what has none stays, at whatever place in the list.
	g := v(0, -64*one)
	checkStep(t, of(g, ball(2*one, v(0, 0), v(0, 0))), ball(2*one, v(0, -one/64), v(0, -2*one)))
	checkStep(t, of(g, ball(5*one, v(0, 0), v(5*one, 0))), ball(5*one, v(one/64, -one/64), v(5*one, -5*one)))
	checkStep(t, of(g, still(0, 0), at(10*one, 0), still(20*one, 0), crate(one, one, 4*one, v(30*one, 0), v(0, 4*one))),
		still(0, 0), ball(one, v(10*one, -one/64), v(0, -one)), still(20*one, 0), crate(one, one, 4*one, v(30*one, 0), v(0, 0)))
	checkStep(t, of(v(32*one, 0), at(0, 0)), ball(one, v(one/128, 0), v(one/2, 0)))
	checkStep(t, of(v(end, -end), still(3, 4)), still(3, 4))
	// Gravity is multiplied first and shared then, towards 0 both times.
	for _, c := range []struct{ gravity, mass, mom api.Fix }{
		{63, one, 0}, {64, one, 1}, {127, one, 1}, {128, one, 2},
		{63, 2 * one, 1}, {32, 2 * one, 1}, {31, 2 * one, 0}, {1, 64 * one, 1}, {1, 10_000 * one, 156},
		{129, one / 2, 1}, {127, one / 2, 0}, {64*64 - 1, one / 64, 0},
	} {
		checkStep(t, of(v(c.gravity, -c.gravity), ball(c.mass, v(9, 9), v(0, 0))), ball(c.mass, v(9, 9), v(c.mom, -c.mom)))
	}
	checkStep(t, of(v(64*64, -64*64), ball(one/64, v(9, 9), v(0, 0))), ball(one/64, v(10, 8), v(1, -1)))
}

// A joint is looked at Rounds times: two that hang on one another come nearer each time, by halves.
func TestP1201StepOfJoints(t *testing.T) {
	w := of(v(0, 0), still(0, 0), at(5*one, 0), at(10*one, 0))
	// The first gives body 1 a Mom of -8 each time; the second hands a half of what is between on to body 2: -4, -6, -7, -7.5.
	b := -15 * one / 2
	checkStep(t, held(w, joint(0, 1, 4*one), joint(1, 2, 5*one)), still(0, 0), ball(one, v(5*one+b/64, 0), v(b, 0)), ball(one, v(10*one+b/64, 0), v(b, 0)))
	// The other way round the second finds nothing the first time, and the first has the last word.
	checkStep(t, held(w, joint(1, 2, 5*one), joint(0, 1, 4*one)), still(0, 0), ball(one, v(5*one-one/8, 0), v(-8*one, 0)), ball(one, v(10*one-7*one/64, 0), v(-7*one, 0)))
	// Which of both is A makes no difference here.
	checkStep(t, held(w, joint(1, 0, 4*one), joint(2, 1, 5*one)), still(0, 0), ball(one, v(5*one+b/64, 0), v(b, 0)), ball(one, v(10*one+b/64, 0), v(b, 0)))
	// One alone is at its aim the first time, and stays there.
	checkStep(t, held(w, joint(0, 1, 4*one)), still(0, 0), ball(one, v(5*one-one/8, 0), v(-8*one, 0)), at(10*one, 0))
	checkStep(t, held(w, joint(0, 2, 10*one)), w.Bodies...)
	checkStep(t, held(w, joint(1, 2, 7*one)), still(0, 0), ball(one, v(5*one-one/8, 0), v(-8*one, 0)), ball(one, v(10*one+one/8, 0), v(8*one, 0)))
	// Two that have no Mass, and two at one place, are held by nothing.
	checkStep(t, held(of(v(0, 0), still(0, 0), still(9*one, 0)), joint(0, 1, one)), still(0, 0), still(9*one, 0))
	checkStep(t, held(of(v(0, 0), crate(one, one, 0, v(0, 0), v(0, 0)), still(0, 0)), joint(0, 1, end)), crate(one, one, 0, v(0, 0), v(0, 0)), still(0, 0))
}

// Gravity is there ahead of the joints: what hangs by one does not fall.
func TestP1201StepGravityAheadOfJoints(t *testing.T) {
	hangs := at(0, -5*one)
	checkStep(t, held(of(v(0, -64*one), still(0, 0), hangs), joint(0, 1, 5*one)), still(0, 0), hangs)
	checkStep(t, held(of(v(0, -64*one), hangs, still(0, 0)), joint(0, 1, 5*one)), hangs, still(0, 0))
	checkStep(t, of(v(0, -64*one), still(0, 0), hangs), still(0, 0), ball(one, v(0, -5*one-one/64), v(0, -one)))
}

// Joints are there ahead of the contacts: what one draws together bounces.
func TestP1201StepJointsAheadOfContacts(t *testing.T) {
	// The joint makes Moms of 2 and -2; the contact -1 and 1 of them, and puts both a quarter apart.
	x := one/4 + one/64
	checkStep(t, held(of(v(0, 0), at(0, 0), at(one, 0)), joint(0, 1, one/2)), ball(one, v(-x, 0), v(-one, 0)), ball(one, v(one+x, 0), v(one, 0)))
}

// A body goes on as it is behind the contacts.
func TestP1201StepContactsAheadOfMoves(t *testing.T) {
	x := one / 128
	checkStep(t, of(v(0, 0), ball(one, v(0, 0), v(2*one, 0)), at(one, 0)), ball(one, v(-one/4+x, 0), v(one/2, 0)), ball(one, v(one+one/4+3*x, 0), v(3*one/2, 0)))
	// On a floor: gravity makes a Mom of -1, which comes back as a half; the depth is one bit, whose half is 0.
	floor := crate(100*one, one, 0, v(0, -2*one+1), v(0, 0))
	checkStep(t, of(v(0, -64*one), at(0, 0), floor), ball(one, v(0, one/128), v(0, one/2)), floor)
	// Edge at edge is no contact, though the boxes meet: so it falls into the floor.
	floor.Pos.Y = -2 * one
	checkStep(t, of(v(0, -64*one), at(0, 0), floor), ball(one, v(0, -one/64), v(0, -one)), floor)
	// They meet only by going on: that is a matter of the next step.
	checkStep(t, of(v(0, 0), ball(one, v(0, 0), v(64*one, 0)), still(5*one/2, 0)), ball(one, v(one, 0), v(64*one, 0)), still(5*one/2, 0))
	checkStep(t, of(v(0, 0), ball(one, v(one, 0), v(64*one, 0)), still(5*one/2, 0)), ball(one, v(one-one/4-one/2, 0), v(-32*one, 0)), still(5*one/2, 0))
}

// Each contact is reckoned of the bodies as those ahead of it left them.
func TestP1201StepContactsAtTheirTurn(t *testing.T) {
	// 0 and 1 are put apart by a quarter each; then 0 and 2 do not touch, and 1 and 2 have a depth of 1.25.
	checkStep(t, of(v(0, 0), at(0, 0), at(one, 0), at(2*one, 0)), at(-one/4, 0), at(one-one/16, 0), at(2*one+5*one/16, 0))
	// All three: -0.25 and 1.25, then -0.3125 and 1.5625, then 0.828125 and 1.984375.
	checkStep(t, of(v(0, 0), at(0, 0), at(one, 0), at(3*one/2, 0)), at(-5*one/16, 0), at(53*one/64, 0), at(127*one/64, 0))
	// By A, then by B, wherever they lie. The same three from the other end: 1.875 and 0.625, then 1.90625 and -0.03125, then the last two.
	checkStep(t, of(v(0, 0), at(3*one/2, 0), at(one, 0), at(0, 0)), at(61*one/32, 0), at(123*one/128, 0), at(-47*one/128, 0))
}

// Which two are asked is settled ahead of all contacts, by boxes.
func TestP1201StepPairsAsTheyWere(t *testing.T) {
	// Body 1 goes to 0.875, which is less than both radii from body 2: but their boxes did not meet.
	checkStep(t, of(v(0, 0), at(0, 0), at(one/2, 0), at(11*one/4, 0)), at(-3*one/8, 0), at(7*one/8, 0), at(11*one/4, 0))
	// They meet at an edge: now they are asked, and touch by then.
	checkStep(t, of(v(0, 0), at(0, 0), at(one/2, 0), at(5*one/2, 0)), at(-3*one/8, 0), at(7*one/8-3*one/32, 0), at(5*one/2+3*one/32, 0))
	// Corner at corner the boxes meet, and the balls do not.
	checkStep(t, of(v(0, 0), at(0, 0), at(15*one/8, 15*one/8)), at(0, 0), at(15*one/8, 15*one/8))
}

// What has no Mass stays, and what has one goes the whole way.
func TestP1201StepOfNoMassBesideOthers(t *testing.T) {
	checkStep(t, of(v(0, 0), still(0, 0), at(one, 0)), still(0, 0), at(3*one/2, 0))
	checkStep(t, of(v(0, 0), at(0, 0), still(one, 0)), at(-one/2, 0), still(one, 0))
	checkStep(t, of(v(end, end), still(0, 0), still(one, 0), still(0, 0)), still(0, 0), still(one, 0), still(0, 0))
}

// On the way a body may be what none may be: just behind a step it may not.
func TestP1201StepOverOnTheWay(t *testing.T) {
	// Gravity makes 8,192 more than the greatest Mom; a wall turns that around.
	heavy := ball(8192*one, v(0, 0), v(mom, 0))
	checkStep(t, of(v(64*one, 0), heavy, still(2*one-2, 0)), ball(8192*one, v(-1-504096*one/8192/64, 0), v(-504096*one, 0)), still(2*one-2, 0))
	// A contact puts it a quarter too far, and it goes back by a half.
	checkStep(t, of(v(0, 0), ball(one, v(far, 0), v(-32*one, 0)), ball(one, v(far-one, 0), v(-32*one, 0))), ball(one, v(far-one/4, 0), v(-32*one, 0)), ball(one, v(far-7*one/4, 0), v(-32*one, 0)))
}

func TestP1201StepNotRightBehindIt(t *testing.T) {
	for _, c := range []struct{ pos, mom, behind, over api.Vec }{
		{v(far, 0), v(63, 0), v(far, 0), v(64, 0)},
		{v(0, far), v(0, 63), v(0, far), v(0, 64)},
		{v(-far, 0), v(-63, 0), v(-far, 0), v(-64, 0)},
		{v(0, -far), v(0, -63), v(0, -far), v(0, -64)},
		{v(far-1, 0), v(64, 0), v(far, 0), v(128, 0)},
	} {
		checkStep(t, of(v(0, 0), ball(one, c.pos, c.mom)), ball(one, c.behind, c.mom))
		for _, w := range []World{of(v(0, 0), ball(one, c.pos, c.over)), of(v(0, 0), ball(one, c.pos, c.over), at(0, 0)), of(v(0, 0), at(0, 0), still(0, 9*one), ball(one, c.pos, c.over))} {
			checkFails(t, w, api.ErrOver)
			checkRun(t, w, 1, World{}, 1, api.ErrOver)
		}
	}
	// A Mom that gravity makes too great.
	heavy := func(pos api.Fix) api.Body { return ball(10_000*one, v(0, pos), v(mom, 0)) }
	stepped := heavy(0)
	stepped.Pos.X = 100 * one / 64
	checkStep(t, of(v(0, 0), heavy(0)), stepped)
	checkFails(t, of(v(1, 0), heavy(0)), api.ErrOver)
	checkFails(t, of(v(0, -1), at(50*one, 0), ball(10_000*one, v(9*one, 0), v(0, -mom))), api.ErrOver)
	// A place to which a contact puts the last one.
	checkFails(t, of(v(0, 0), at(0, 0), at(far-one, 0), at(far, 0)), api.ErrOver)
	checkStep(t, of(v(0, 0), at(0, 0), at(far-one-one/4, 0), at(far-one/4, 0)), at(0, 0), at(far-one-one/2, 0), at(far, 0))
}

// A joint pulls so hard that no number tells it.
func TestP1201StepOfAFault(t *testing.T) {
	a, b := still(-far, -far), ball(10_000*one, v(far, far), v(0, 0))
	if p := thrown(func() { push.Joint(a, b, 0) }); p != (calc.Fault{Errno: api.ErrOver}) {
		t.Errorf("push.Joint: panic %v: nothing is asked by it", p)
	}
	w := held(of(v(0, 0), at(0, 0), a, b), joint(1, 2, 0))
	checkFails(t, w, api.ErrOver)
	for _, n := range []int{1, 2, api.MaxSteps} {
		checkRun(t, w, n, World{}, 1, api.ErrOver)
	}
	checkRun(t, w, 0, w, 0, api.OK)
	checkStep(t, held(w), w.Bodies...)
}

func TestP1202Run(t *testing.T) {
	w := of(v(0, 0), ball(2*one, v(0, 0), v(2*one, -4*one)), still(0, 50*one))
	for _, n := range []int{0, 1, 2, 63, 64, api.MaxSteps - 1, api.MaxSteps} {
		x := api.Fix(n) * one / 64
		checkRun(t, w, n, of(v(0, 0), ball(2*one, v(x, -2*x), v(2*one, -4*one)), still(0, 50*one)), 0, api.OK)
		checkRun(t, World{}, n, World{}, 0, api.OK)
		checkRun(t, of(v(end, -end)), n, of(v(end, -end)), 0, api.OK)
	}
	for _, n := range []int{-1, -2, math.MinInt, api.MaxSteps + 1, 1_000, math.MaxInt} {
		checkRun(t, w, n, World{}, 0, api.ErrArg)
		checkRun(t, World{}, n, World{}, 0, api.ErrArg)
	}
}

// Gravity and joints are there in all steps: n of them are n times a Step.
func TestP1202RunIsManySteps(t *testing.T) {
	w := held(of(v(0, -10*one), ball(2*one, v(0, 5*one), v(one, 0)), crate(100*one, one, 0, v(0, 0), v(0, 0)), at(one/2, 7*one)), joint(0, 2, 3*one))
	x := w
	for n := 1; n <= api.MaxSteps; n++ {
		next, err := Step(x)
		if err != api.OK {
			t.Fatalf("step %d: %d", n, err)
		}
		x = next
		checkRun(t, w, n, x, 0, api.OK)
		checkRun(t, w, n, x, 0, api.OK)
	}
	if x.Bodies[0].Pos == w.Bodies[0].Pos || !slices.Equal(x.Joints, w.Joints) || x.Gravity != w.Gravity {
		t.Errorf("%v became %v", w, x)
	}
}

// The first error, at its step; n that do not come so far know nothing of it.
func TestP1202RunFails(t *testing.T) {
	// A quarter a step: the fourth comes to the very end, the fifth beyond.
	b := func(x api.Fix) api.Body { return ball(one, v(x, 0), v(16*one, 0)) }
	w := of(v(0, 0), at(0, 9*one), b(far-one))
	for n := range 5 {
		checkRun(t, w, n, of(v(0, 0), at(0, 9*one), b(far-one+api.Fix(n)*one/4)), 0, api.OK)
	}
	for _, n := range []int{5, 6, 7, 100, api.MaxSteps - 1, api.MaxSteps} {
		checkRun(t, w, n, World{}, 5, api.ErrOver)
	}
	checkRun(t, w, api.MaxSteps+1, World{}, 0, api.ErrArg)
	// The very last step of all.
	slow := of(v(0, 0), ball(one, v(far-199, 0), v(64, 0)))
	checkRun(t, slow, 199, of(v(0, 0), ball(one, v(far, 0), v(64, 0))), 0, api.OK)
	checkRun(t, slow, 200, World{}, 200, api.ErrOver)
}

// checkMomentum wants both answers, and that nothing is written.
func checkMomentum(t *testing.T, want api.Vec, errno api.Errno, l ...api.Vec) {
	t.Helper()
	var w World
	for _, m := range l {
		w.Bodies = append(w.Bodies, ball(one, v(7, 8), m))
	}
	was := copied(w)
	if got, err := Momentum(w); got != want || err != errno {
		t.Errorf("Momentum of %d: %d, %d, not %d, %d", l, got, err, want, errno)
	}
	if !same(w, was) {
		t.Errorf("Momentum of %v wrote into it: %v", was, w)
	}
}

func TestP1202Momentum(t *testing.T) {
	checkMomentum(t, v(0, 0), api.OK)
	checkMomentum(t, v(5, -7), api.OK, v(5, -7))
	checkMomentum(t, v(5+2*one, 93), api.OK, v(5, -7), v(2*one, 0), v(0, 100))
	checkMomentum(t, v(most, lowest), api.OK, v(most, lowest))
	checkMomentum(t, v(most, lowest), api.OK, v(most-1, lowest+1), v(1, -1))
	checkMomentum(t, v(-1, -1), api.OK, v(most, lowest), v(lowest, most))
	for _, l := range [][]api.Vec{
		{v(most, 0), v(1, 0)}, {v(0, most), v(0, 1)}, {v(lowest, 0), v(-1, 0)}, {v(0, lowest), v(0, -1)},
		{v(1, 2), v(most, 0)}, {v(2, 1), v(0, most)}, {v(3, 4), v(most-3, 0), v(1, 0)},
	} {
		checkMomentum(t, v(0, 0), api.ErrOver, l...)
	}
	// In order: what is too great between is too great, though the whole is not.
	checkMomentum(t, v(0, 0), api.ErrOver, v(most, 0), v(1, 0), v(-1, 0))
	checkMomentum(t, v(most, 0), api.OK, v(most, 0), v(-1, 0), v(1, 0))
	checkMomentum(t, v(most, 0), api.OK, v(-1, 0), v(1, 0), v(most, 0))
	checkMomentum(t, v(0, 0), api.ErrOver, v(0, lowest), v(0, -1), v(0, 1))
}

// It is asked of any world, be it one that may be or not.
func TestP1202MomentumOfAnyWorld(t *testing.T) {
	w := World{Gravity: v(most, lowest), Bodies: []api.Body{{Mom: v(1, 2)}, {Mass: -1, Mom: v(5, -9)}, {Shape: 9, Pos: v(most, most)}}, Joints: []api.Joint{{A: 7, B: 7, Len: -1}}}
	if got, err := Momentum(w); got != v(6, -7) || err != api.OK {
		t.Errorf("Momentum: %d, %d", got, err)
	}
}

// picker picks numbers, always the same ones.
type picker uint64

func (p *picker) below(n int) int {
	*p = *p*6364136223846793005 + 1442695040888963407
	return int(uint64(*p>>33) % uint64(n))
}

// fix is one from -most to most.
func (p *picker) fix(most api.Fix) api.Fix {
	wide := api.Fix(p.below(1<<31))<<31 | api.Fix(p.below(1<<31))
	return wide%(2*most+1) - most
}

func (p *picker) vec(most api.Fix) api.Vec { return v(p.fix(most), p.fix(most)) }

// body is one that may be, near 0, so that many touch; now and then it is fast, or heavy, or at the edge of all.
func (p *picker) body() api.Body {
	b := crate(one+p.fix(one/2), one+p.fix(one/2), one+p.fix(one*63/64), p.vec(3*one), p.vec(2*one))
	switch p.below(8) {
	case 0:
		b.Mass, b.Mom = 0, v(0, 0)
	case 1:
		b.Mass, b.Mom = 5_000*one+p.fix(4_999*one), p.vec(mom)
	case 2:
		b.Mass = one / 64
	}
	if p.below(2) == 0 {
		b.Shape, b.Size.Y = api.Ball, 0
	}
	if p.below(10) == 0 {
		b.Pos = v(far*api.Fix(1-2*p.below(2)), far)
	}
	return b
}

func (p *picker) world() World {
	w := World{}
	for range p.below(7) {
		w.Bodies = append(w.Bodies, p.body())
	}
	for range p.below(5) {
		if n := len(w.Bodies); n > 1 {
			a := p.below(n)
			w.Joints = append(w.Joints, joint(a, (a+1+p.below(n-1))%n, 2*one+p.fix(2*one)))
		}
	}
	if p.below(3) > 0 {
		w.Gravity = p.vec(20 * one)
	}
	return w
}

// plain is a step of a world that may be, as the chapter spells it; each two bodies are asked.
func plain(w World) (World, api.Errno) {
	l := append([]api.Body(nil), w.Bodies...)
	err := calc.Try(func() {
		for i, b := range w.Bodies {
			l[i].Mom = vec.Add(b.Mom, vec.Share(vec.Scale(w.Gravity, b.Mass), 64))
		}
		for n := range 4 * len(w.Joints) {
			j := w.Joints[n%len(w.Joints)]
			a, b := push.Joint(l[j.A], l[j.B], j.Len)
			l[j.A], l[j.B] = a, b
		}
		boxes := make([]api.Box, len(l))
		for i := range l {
			boxes[i] = bounds.Of(l[i])
		}
		for n := range len(l) * len(l) {
			i, j := n/len(l), n%len(l)
			if i >= j || !bounds.Meet(boxes[i], boxes[j]) {
				continue
			}
			if h, hit := touch.Hit(l[i], l[j]); hit {
				l[i], l[j] = push.Contact(l[i], l[j], h)
			}
		}
		for i, b := range l {
			l[i].Pos = vec.Add(b.Pos, vec.Share(shape.Speed(b), 64))
		}
	})
	for _, b := range l {
		if err == api.OK && !shape.Right(b) {
			err = api.ErrOver
		}
	}
	if err != api.OK {
		return World{}, err
	}
	return World{Gravity: w.Gravity, Bodies: l, Joints: w.Joints}, api.OK
}

func TestP1201StepAsPlain(t *testing.T) {
	p := picker(1201)
	failed, all := 0, 0
	for range 6_000 {
		w := p.world()
		if !Right(w) {
			t.Fatalf("%v may not be: nothing is asked by it", w)
		}
		for range 3 {
			all++
			want, errno := plain(w)
			if errno != api.OK {
				failed++
				checkFails(t, w, errno)
				break
			}
			checkStep(t, w, want.Bodies...)
			w = want
		}
	}
	if failed < all/50 || failed > all/2 {
		t.Errorf("%d of %d fail: one side is hardly asked", failed, all)
	}
}

// sum is all Mom together, without a bound.
func sum(l []api.Body) [2]string {
	x, y := new(big.Int), new(big.Int)
	for _, b := range l {
		x.Add(x, big.NewInt(int64(b.Mom.X)))
		y.Add(y, big.NewInt(int64(b.Mom.Y)))
	}
	return [2]string{x.String(), y.String()}
}

// W4: where all have a Mass and nothing falls, joints and contacts keep the sum of all Mom, to the last bit.
func TestP1201P1202TheSumIsKept(t *testing.T) {
	p := picker(1202)
	turned := 0
	for range 4_000 {
		w := p.world()
		w.Gravity = v(0, 0)
		for i := range w.Bodies {
			if w.Bodies[i].Mass == 0 {
				w.Bodies[i].Mass = one
			}
		}
		got, step, err := Run(w, 1+p.below(20))
		if err != api.OK {
			got, step, err = Run(w, step-1)
		}
		if err != api.OK || sum(got.Bodies) != sum(w.Bodies) {
			t.Errorf("%v became %v, %d, %d: its Mom is not the same", w, got, step, err)
		}
		first, _ := Momentum(w)
		last, errno := Momentum(got)
		if first != last || errno != api.OK {
			t.Errorf("Momentum of %v: %d, behind that %d, %d", w, first, last, errno)
		}
		for i := range got.Bodies {
			if got.Bodies[i].Mom != w.Bodies[i].Mom {
				turned++
			}
		}
	}
	if turned < 3_000 {
		t.Errorf("just %d bodies had their Mom turned", turned)
	}
}

// spoil writes into all that a world has, and into what lies behind its lists.
func spoil(w World) {
	bodies, joints := w.Bodies[:cap(w.Bodies)], w.Joints[:cap(w.Joints)]
	for i := range bodies {
		bodies[i] = api.Body{Shape: 77}
	}
	for i := range joints {
		joints[i] = api.Joint{A: 77}
	}
}

// An answer shares no memory with what was handed in, nor with another answer; what lies behind the lists stays, too.
func TestP1201P1202AnswersAreNew(t *testing.T) {
	bodies := []api.Body{still(0, 0), at(one, 0), at(5*one, 0), at(77, 77)}
	joints := []api.Joint{joint(0, 1, one), joint(1, 2, 3*one), joint(7, 7, 7)}
	w := World{Gravity: v(0, -one), Bodies: bodies[:3], Joints: joints[:2]}
	wasBodies, wasJoints := slices.Clone(bodies), slices.Clone(joints)
	calls := []func() World{
		func() World { x, _ := Step(w); return x },
		func() World { x, _, _ := Run(w, 0); return x },
		func() World { x, _, _ := Run(w, 1); return x },
		func() World { x, _, _ := Run(w, 9); return x },
	}
	for i, call := range calls {
		first, second := call(), call()
		kept := copied(second)
		if len(first.Bodies) != 3 || len(first.Joints) != 2 || !same(first, second) {
			t.Errorf("call %d: %v, then %v", i, first, second)
		}
		spoil(first)
		if !same(second, kept) {
			t.Errorf("call %d: two answers share memory", i)
		}
		if !slices.Equal(bodies, wasBodies) || !slices.Equal(joints, wasJoints) {
			t.Errorf("call %d: what was handed in was written: %v, %v", i, bodies, joints)
		}
	}
	// The world that is handed in may be spoilt: what was answered stays.
	for i, call := range calls {
		got := call()
		kept := copied(got)
		spoil(w)
		if !same(got, kept) {
			t.Errorf("call %d: the answer shares memory with what was handed in", i)
		}
		copy(bodies, wasBodies)
		copy(joints, wasJoints)
	}
}
