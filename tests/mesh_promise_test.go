package tests

import (
	"fmt"
	"math/rand/v2"
	"reflect"
	"slices"
	"strings"
	"testing"

	"loop.example/g00167/impl"
)

// The eighth promise in its own words, on the program's answers: what is delivered was permitted, and each hop was delivered before; logs stay good.

var meshNames = []string{"p/a", "p/b", "p/c", "q/a", "q/d"}

var meshPaths = []string{"/", "/x", "/x/y", "/z"}

var meshPolicies = []string{
	openText, openText, openText + "deny p/c * /x/**\n", openText + "deny */a put /**\n", openText + "deny p/a get /z\ndeny q/* * /\n",
	"allow p/* * /**\nallow */* get /x\n", "allow */* get /**\n", "allow p/b * /x/*\n", "deny p/a * /**\n", "",
}

var kindNames = []string{"none", "enrol", "revoke", "policy", "tick", "mail", "push", "ask", "hop", "forge", "decide", "crash"}

func oneOf[T any](rnd *rand.Rand, l []T) T {
	return l[rnd.IntN(len(l))]
}

// meshWalk plays acts one by one: each time all of them, so that the mesh ahead of each act and behind it are both answers of the program.
type meshWalk struct {
	t     *testing.T
	rnd   *rand.Rand
	names []string
	model *meshModel
	acts  []impl.Act
	codes []int
	mesh  impl.Mesh
	told  map[string]int
}

func newMeshWalk(t *testing.T, rnd *rand.Rand, told map[string]int) *meshWalk {
	return &meshWalk{t: t, rnd: rnd, names: meshNames, model: newMeshModel(), mesh: impl.NewMesh(), told: told}
}

// start brings a policy to some names.
func (w *meshWalk) start(policy string, names ...string) {
	w.t.Helper()
	for _, a := range ready(policy, names...) {
		w.step(a)
	}
}

func (w *meshWalk) step(a impl.Act) {
	w.t.Helper()
	w.acts, w.codes = append(w.acts, a), append(w.codes, w.model.act(a))
	m, codes, ok := impl.PlayMesh(w.acts)
	if !ok || !slices.Equal(codes, w.codes) || !sameMesh(m, w.model.told()) {
		w.t.Fatalf("PlayMesh(%+v) = %+v, %v, %v; asked: %+v, %v", w.acts, m, codes, ok, w.model.told(), w.codes)
	}
	code := codes[len(codes)-1]
	w.told[fmt.Sprint(kindNames[a.Kind], " ", code)]++
	w.keepsLogs(m, a, code)
	w.deliversPermitted(m)
	w.mesh = m
}

func carOf(m impl.Mesh, name string) impl.Sidecar {
	for _, c := range m.Sidecars {
		if c.Name == name {
			return c
		}
	}
	return impl.Sidecar{}
}

// keepsLogs asks that just the ask that was decided is told, that all logs are good, and that a code leaves the mesh as it was.
func (w *meshWalk) keepsLogs(m impl.Mesh, a impl.Act, code int) {
	w.t.Helper()
	if !impl.LogsGood(m) {
		w.t.Fatalf("%+v", m.Sidecars)
	}
	decided := a.Kind == impl.ActDecide && code != impl.MeshNone && code != impl.MeshFull
	if code != impl.MeshOk && !decided && !sameMesh(m, w.mesh) {
		w.t.Fatalf("%+v told %v and changed %+v to %+v", a, code, w.mesh, m)
	}
	for _, c := range m.Sidecars {
		before := carOf(w.mesh, c.Name)
		if !impl.GoodLog(c.Log) {
			w.t.Fatalf("%+v", c.Log)
		}
		if !decided || c.Name != a.A {
			if !slices.Equal(c.Log, before.Log) {
				w.t.Fatalf("%+v: %+v is %+v", a, before.Log, c.Log)
			}
			continue
		}
		ask := before.Queue[0]
		told, detail := impl.DecideAsk(before.Side, ask, w.mesh.Issuer.Signed, w.mesh.Now, c.Name)
		note := fmt.Sprintf("%d %d %s %s", code, detail, ask.Token[0].Who, ask.Path)
		w.told[fmt.Sprint("detail ", code, " ", detail)]++
		if want, ok := impl.AppendNote(before.Log, note); told != code || !ok || !slices.Equal(c.Log, want) {
			w.t.Fatalf("%+v: %v, %v, %+v is %+v", a, told, detail, before.Log, c.Log)
		}
		if !slices.EqualFunc(c.Queue, before.Queue[1:], sameAsk) || len(m.Delivered)-len(w.mesh.Delivered) != map[bool]int{true: 1}[code == impl.MeshOk] {
			w.t.Fatalf("%+v: %+v is %+v", a, before, c)
		}
		// A version that is coming shuts the door, and so does none.
		if code == impl.MeshOk && (before.Side.Coming != 0 || before.Side.Force.Number == 0) {
			w.t.Fatalf("%+v: %+v", a, before)
		}
	}
}

// deliversPermitted asks each delivery anew, and holds it against the records.
func (w *meshWalk) deliversPermitted(m impl.Mesh) {
	w.t.Helper()
	if !slices.EqualFunc(m.Delivered[:len(w.mesh.Delivered)], w.mesh.Delivered, sameDelivery) {
		w.t.Fatalf("%+v is %+v", w.mesh.Delivered, m.Delivered)
	}
	for i, d := range m.Delivered {
		kept := m.Versions[0].Number <= d.Version
		if impl.PermittedBy(m, d) != kept {
			w.t.Fatalf("%+v of %+v: %v", d, m.Versions, kept)
		}
		l := d.Ask.Token
		last := l[len(l)-1]
		ahead := func(e impl.Delivery) bool { return e.At == last.Who && slices.Equal(e.Ask.Token, l[:len(l)-1]) }
		if len(l) > 1 && !slices.ContainsFunc(m.Delivered[:i], ahead) {
			w.t.Fatalf("%+v was not delivered ahead: %+v", l, m.Delivered[:i])
		}
		if last.To != d.At || !slices.Contains(m.Issuer.Signed, modelTokenText(l)) {
			w.t.Fatalf("%+v", d)
		}
	}
	for _, c := range m.Sidecars {
		var asked []string
		there, ok := impl.DeliveredAt(m, c.Name)
		for _, d := range there {
			asked = append(asked, fmt.Sprintf("0 0 %s %s", d.Ask.Token[0].Who, d.Ask.Path))
		}
		notes := slices.DeleteFunc(notesOf(c.Log), func(note string) bool { return !strings.HasPrefix(note, "0 ") })
		if !ok || !slices.Equal(notes, asked) {
			w.t.Fatalf("%+v delivered %+v", c, there)
		}
	}
}

// deliveredPlace tells mostly a place in Delivered, and who it is at.
func (w *meshWalk) deliveredPlace() (string, int) {
	if len(w.mesh.Delivered) == 0 || w.rnd.IntN(8) == 0 {
		return oneOf(w.rnd, w.names), w.rnd.IntN(4) - 1
	}
	n := w.rnd.IntN(len(w.mesh.Delivered))
	n = max(n, w.rnd.IntN(len(w.mesh.Delivered)))
	return w.mesh.Delivered[n].At, n
}

// tokenText tells mostly a text that was signed, once in a while with a digit changed.
func (w *meshWalk) tokenText() string {
	signed := w.mesh.Issuer.Signed
	if len(signed) == 0 || w.rnd.IntN(5) == 0 {
		return oneOf(w.rnd, []string{"p/a p/b 1 0 50;", "p/c q/a 2 0 100000;", "p/a p/b 1 0 50;p/b p/c 2 0 50;", "", "p/a p/b 1 0 50"})
	}
	text := []byte(oneOf(w.rnd, signed))
	if w.rnd.IntN(4) == 0 {
		text[w.rnd.IntN(len(text))] = byte('0' + w.rnd.IntN(10))
	}
	return string(text)
}

// waiting tells mostly who has an ask in its queue.
func (w *meshWalk) waiting() string {
	for range 4 {
		if c := carOf(w.mesh, oneOf(w.rnd, w.names)); len(c.Queue) > 0 && w.rnd.IntN(8) > 0 {
			return c.Name
		}
	}
	return oneOf(w.rnd, w.names)
}

func (w *meshWalk) act() impl.Act {
	a, b := oneOf(w.rnd, w.names), oneOf(w.rnd, w.names)
	method, path := oneOf(w.rnd, []string{"get", "get", "get", "put"}), oneOf(w.rnd, meshPaths)
	if w.rnd.IntN(25) == 0 {
		method = "post"
	}
	switch n := w.rnd.IntN(100); {
	case n < 4:
		return at(impl.ActEnrol, a)
	case n < 6:
		return at(impl.ActRevoke, a)
	case n < 10:
		return actPolicy(oneOf(w.rnd, append(meshPolicies, "x")))
	case n < 14:
		return actTick(oneOf(w.rnd, []int{0, 1, 2, 5, 20, 30000}))
	case n < 24:
		return actMail(a, w.rnd.IntN(6)-w.rnd.IntN(2))
	case n < 34:
		return at(impl.ActPush, a)
	case n < 50:
		return actAsk(a, b, method, path, oneOf(w.rnd, []int{0, 1, 5, 50, 50, 100000, 100001}))
	case n < 63:
		who, place := w.deliveredPlace()
		return actHop(who, place, b, method, path)
	case n < 70:
		return actForge(b, method, path, w.tokenText())
	case n < 98:
		return at(impl.ActDecide, w.waiting())
	}
	return at(impl.ActCrash, a)
}

func TestWhatIsDeliveredWasPermitted(t *testing.T) {
	told := map[string]int{}
	for round := range 150 {
		w := newMeshWalk(t, rand.New(rand.NewPCG(8, uint64(round))), told)
		w.start(oneOf(w.rnd, meshPolicies[:4]), meshNames[:3+round%3]...)
		for len(w.acts) < impl.MaxActs {
			w.step(w.act())
		}
		for _, d := range w.mesh.Delivered {
			told[fmt.Sprint("links ", len(d.Ask.Token))]++
			if !impl.PermittedBy(w.mesh, d) {
				told["gone"]++
			}
		}
	}
	for _, what := range []string{
		"enrol 0", "enrol 2", "revoke 0", "revoke 3", "policy 0", "policy 1", "tick 0", "tick 1", "mail 0", "mail 1", "mail 2", "push 0", "push 2",
		"ask 0", "ask 1", "ask 2", "ask 3", "hop 0", "hop 1", "hop 2", "hop 3", "hop 4", "forge 0", "forge 1", "forge 2",
		"decide 0", "decide 2", "decide 4", "decide 5", "decide 6", "decide 7", "crash 0", "crash 2",
		"detail 6 2", "detail 6 3", "detail 6 4", "detail 6 5", "detail 7 2", "detail 7 3", "links 1", "links 2", "links 3", "links 4",
	} {
		if told[what] < 20 {
			t.Errorf("%s only %v times", what, told[what])
		}
	}
}

// Queues that are full all the time: little is decided, so that each way to ask is told MeshFull.
func TestDeliveredWithFullQueues(t *testing.T) {
	told := map[string]int{}
	for round := range 30 {
		w := newMeshWalk(t, rand.New(rand.NewPCG(8, 200+uint64(round))), told)
		w.names = meshNames[:2]
		w.start(openText, w.names...)
		seldom := []int{impl.ActDecide, impl.ActCrash, impl.ActRevoke, impl.ActPolicy, impl.ActTick, impl.ActMail}
		for len(w.acts) < impl.MaxActs {
			if a := w.act(); len(w.mesh.Delivered) == 0 || w.rnd.IntN(6) == 0 || !slices.Contains(seldom, a.Kind) {
				w.step(a)
			}
		}
	}
	for _, what := range []string{"ask 3", "hop 3", "forge 3", "decide 0"} {
		if told[what] < 20 {
			t.Errorf("%s only %v times", what, told[what])
		}
	}
}

// Versions that go while what they permitted stays delivered.
func TestDeliveredWhileVersionsGo(t *testing.T) {
	told := map[string]int{}
	for round := range 20 {
		w := newMeshWalk(t, rand.New(rand.NewPCG(8, 300+uint64(round))), told)
		w.start(openText, meshNames[:3]...)
		for len(w.acts) < impl.MaxActs-2 {
			if w.rnd.IntN(4) == 0 {
				w.step(actPolicy(oneOf(w.rnd, meshPolicies[:4])))
				w.step(at(impl.ActPush, oneOf(w.rnd, meshNames[:3])))
			}
			w.step(w.act())
		}
		for _, d := range w.mesh.Delivered {
			told[fmt.Sprint("permitted ", impl.PermittedBy(w.mesh, d))]++
		}
	}
	if told["permitted true"] < 20 || told["permitted false"] < 20 {
		t.Error(told)
	}
}

// A hop of what was not delivered, or not there, is none: neither a token that waits nor one that was refused is handed on.
func TestNoHopOfWhatWasNotDelivered(t *testing.T) {
	acts := after(ready("allow p/a get /x\n", "p/a", "p/b", "p/c"), actAsk("p/a", "p/b", "get", "/x", 50))
	for _, n := range []int{-1, 0, 1} {
		changesNothing(t, after(acts, actHop("p/b", n, "p/c", "get", "/x")), impl.MeshNone)
	}
	acts = after(acts, actAsk("p/a", "p/b", "put", "/x", 50), at(impl.ActDecide, "p/b"))
	plays(t, after(acts, at(impl.ActDecide, "p/b"), actHop("p/b", 1, "p/c", "get", "/x")), impl.MeshPolicy, impl.MeshNone)
	// A longer token that one makes up oneself is not signed, though all its links but the last are.
	made := "p/a p/b 1 0 50;p/b p/c 3 0 50;"
	m := plays(t, after(acts, actForge("p/c", "get", "/x", made), at(impl.ActDecide, "p/c")), impl.MeshToken)
	if !slices.Equal(notesOf(m.Sidecars[2].Log), []string{"6 2 p/a /x"}) {
		t.Error(m.Sidecars[2].Log)
	}
	// When it is signed behind that it is right; until then it waits in vain.
	m = plays(t, after(acts, actForge("p/c", "get", "/x", made), actHop("p/b", 0, "p/c", "get", "/x"), at(impl.ActDecide, "p/c")), impl.MeshPolicy)
	if m.Issuer.Signed[2] != made || !slices.Equal(notesOf(m.Sidecars[2].Log), []string{"7 3 p/a /x"}) {
		t.Error(m)
	}
}

// The tenth promise for this chapter: any arguments, none changed, none shared.

// roomy tells a copy of a value in which each list has memory of its own and room behind it, with its last one in it once more.
func roomy[T any](x T) T {
	return withRoom(reflect.ValueOf(x)).Interface().(T)
}

func withRoom(v reflect.Value) reflect.Value {
	switch v.Kind() {
	case reflect.Struct:
		c := reflect.New(v.Type()).Elem()
		for i := range v.NumField() {
			c.Field(i).Set(withRoom(v.Field(i)))
		}
		return c
	case reflect.Slice:
		n := v.Len()
		whole := reflect.MakeSlice(v.Type(), n+2, n+2)
		for i := range n {
			whole.Index(i).Set(withRoom(v.Index(i)))
		}
		if n > 0 {
			whole.Index(n).Set(withRoom(v.Index(n - 1)))
		}
		return whole.Slice(0, n)
	}
	return v
}

// standing tells all that stands in a value, also what lies behind the lists in it.
func standing(x any) string {
	var text strings.Builder
	write(&text, reflect.ValueOf(x))
	return text.String()
}

func write(text *strings.Builder, v reflect.Value) {
	switch v.Kind() {
	case reflect.Struct:
		for i := range v.NumField() {
			write(text, v.Field(i))
		}
	case reflect.Slice:
		fmt.Fprintf(text, "(%d", v.Len())
		for i := range v.Cap() {
			write(text, v.Slice(0, v.Cap()).Index(i))
		}
		text.WriteString(")")
	case reflect.String:
		fmt.Fprintf(text, "%q,", v.String())
	default:
		fmt.Fprint(text, v, ",")
	}
}

type stretch struct {
	from, to uintptr
}

// stretchesOf tells where the lists of a value lie, each up to its end.
func stretchesOf(v reflect.Value) []stretch {
	var all []stretch
	switch v.Kind() {
	case reflect.Struct:
		for i := range v.NumField() {
			all = append(all, stretchesOf(v.Field(i))...)
		}
	case reflect.Slice:
		if v.Cap() > 0 {
			all = append(all, stretch{v.Pointer(), v.Pointer() + uintptr(v.Cap())*v.Type().Elem().Size()})
		}
		for i := range v.Cap() {
			all = append(all, stretchesOf(v.Slice(0, v.Cap()).Index(i))...)
		}
	}
	return all
}

// apart tells whether no two lists of all these values share memory.
func apart(values ...any) bool {
	var all []stretch
	for _, x := range values {
		all = append(all, stretchesOf(reflect.ValueOf(x))...)
	}
	slices.SortFunc(all, func(a, b stretch) int { return int(a.from) - int(b.from) })
	for i := 1; i < len(all); i++ {
		if all[i].from < all[i-1].to {
			return false
		}
	}
	return true
}

// The helpers themselves are asked: one that tells nothing would let all pass.
func TestApartAndStanding(t *testing.T) {
	l := []int{1, 2, 3, 4}
	if !apart(l[:2:2], l[2:]) || apart(l[:3], l[2:]) || apart(l[:2], l[2:]) || apart(impl.Snapshot{Revoked: l}, l) || apart([]impl.Snapshot{{Revoked: l}, {Revoked: l}}) {
		t.Error("apart")
	}
	if !apart(nil, []int{}, l[4:], l) || !apart(roomy(l), l) {
		t.Error("apart")
	}
	before := standing(l[:2])
	l[3] = 9
	if standing(l[:2]) == before || standing(l[:2]) == standing(l[:3]) {
		t.Error("standing")
	}
	r := roomy([]impl.Ask{{Token: chainOf(2), Path: "/"}})
	if len(r) != 1 || cap(r) != 3 || len(r[0].Token) != 2 || cap(r[0].Token) != 4 || r[0].Token[:3][2] != chainOf(2)[1] || r[:2][1].Path != "/" {
		t.Error(r)
	}
}

type meshCall struct {
	acts   []impl.Act
	s      impl.Side
	a      impl.Ask
	signed []string
	now    int
	at     string
	m      impl.Mesh
	d      impl.Delivery
}

// checkMeshCall asks every function of the chapter, holds each answer against the model's, and then looks at all memory.
func checkMeshCall(t *testing.T, c meshCall) {
	t.Helper()
	r := roomy(c.acts)
	s, a, signed := roomy(c.s), roomy(c.a), roomy(c.signed)
	m, d := roomy(c.m), roomy(c.d)
	handed := []any{r, s, a, signed, m, d}
	before := standing(meshCall{acts: r, s: s, a: a, signed: signed, m: m, d: d})

	made, codes, ok := impl.PlayMesh(r)
	again, _, _ := impl.PlayMesh(r)
	if want, told, is := modelPlay(c.acts); ok != is || !slices.Equal(codes, told) || !sameMesh(made, want) || !sameMesh(made, again) {
		t.Errorf("PlayMesh(%s) = %s, %v, %v", short(c.acts), short(made), codes, ok)
	}
	code, detail := impl.DecideAsk(s, a, signed, c.now, c.at)
	if want, is := modelDecideAsk(c.s, c.a, c.signed, c.now, c.at); code != want || detail != is {
		t.Errorf("DecideAsk(%s, %s, %s, %v, %.60q) = %v, %v", short(c.s), short(c.a), short(c.signed), c.now, c.at, code, detail)
	}
	if got, want := impl.LogsGood(m), modelLogsGood(c.m); got != want {
		t.Errorf("LogsGood(%s) = %v", short(c.m), got)
	}
	there, ok := impl.DeliveredAt(m, c.at)
	if want, is := modelDeliveredAt(c.m, c.at); ok != is || !slices.EqualFunc(there, want, sameDelivery) {
		t.Errorf("DeliveredAt(%s, %.60q) = %s, %v", short(c.m), c.at, short(there), ok)
	}
	if got, want := impl.PermittedBy(m, d), modelPermitted(c.m, c.d); got != want {
		t.Errorf("PermittedBy(%s, %s) = %v", short(c.m), short(c.d), got)
	}

	if !apart(append(handed, made, codes, again, there, impl.NewMesh())...) {
		t.Errorf("shared: %s", short(c))
	}
	if standing(meshCall{acts: r, s: s, a: a, signed: signed, m: m, d: d}) != before {
		t.Errorf("changed: %s", short(c))
	}
}

// randomActs tells acts of a mesh, so many at most; they are made by the model alone.
func randomActs(rnd *rand.Rand, n int) ([]impl.Act, impl.Mesh) {
	w := newMeshWalk(nil, rnd, map[string]int{})
	acts := ready(oneOf(rnd, meshPolicies), meshNames[:1+rnd.IntN(5)]...)
	acts = acts[:min(len(acts), n)]
	for _, a := range acts {
		w.model.act(a)
	}
	for len(acts) < n {
		w.mesh = w.model.told()
		a := w.act()
		w.model.act(a)
		acts = append(acts, a)
	}
	return acts, w.model.told()
}

// oddAct makes one part of an act odd.
func oddAct(rnd *rand.Rand, a impl.Act) impl.Act {
	text := oneOf(rnd, nearTexts)
	switch rnd.IntN(7) {
	case 0:
		a.Kind = oneOf(rnd, append(oddNumbers, 12, 3, 5, 8))
	case 1:
		a.A = text
	case 2:
		a.B = text
	case 3:
		a.N = oneOf(rnd, oddNumbers)
	case 4:
		a.Method = text
	case 5:
		a.Path = text
	case 6:
		a.Text = text
	}
	return a
}

func oddAsk(rnd *rand.Rand, a impl.Ask) impl.Ask {
	switch rnd.IntN(4) {
	case 0:
		a.Token = oddList(rnd, a.Token, oddLink(rnd))
	case 1:
		if len(a.Token) > 0 {
			a.Token = slices.Clone(a.Token)
			a.Token[rnd.IntN(len(a.Token))] = oddLink(rnd)
		}
	case 2:
		a.Method = oneOf(rnd, nearTexts)
	case 3:
		a.Path = oneOf(rnd, nearTexts)
	}
	return a
}

func oddDelivery(rnd *rand.Rand, d impl.Delivery) impl.Delivery {
	switch rnd.IntN(4) {
	case 0:
		d.At = oneOf(rnd, nearTexts)
	case 1:
		d.Ask = oddAsk(rnd, d.Ask)
	case 2:
		d.Version = oneOf(rnd, oddNumbers)
	case 3:
		d.Time = oneOf(rnd, oddNumbers)
	}
	return d
}

// oddMesh makes one part of a mesh odd; the mesh is the caller's own.
func oddMesh(rnd *rand.Rand, m impl.Mesh, odd []impl.Rule) impl.Mesh {
	m = roomy(m)
	switch rnd.IntN(9) {
	case 0:
		m.Now = oneOf(rnd, oddNumbers)
	case 1:
		m.Issuer = spoil(rnd, m.Issuer)
	case 2:
		m.Issuer.Signed = oddList(rnd, m.Issuer.Signed, "x")
	case 3:
		m.Versions = oddList(rnd, m.Versions, impl.Snapshot{})
	case 4:
		if len(m.Versions) > 0 {
			i := rnd.IntN(len(m.Versions))
			m.Versions[i] = oddSnapshot(rnd, m.Versions[i], odd)
		}
	case 5:
		m.Sidecars = slices.Repeat(oddList(rnd, m.Sidecars, impl.Sidecar{}), 1+rnd.IntN(3))
	case 6:
		if len(m.Sidecars) > 0 {
			c := &m.Sidecars[rnd.IntN(len(m.Sidecars))]
			c.Log = oddList(rnd, c.Log, oddRecord(rnd, impl.Record{Number: 1}))
		}
	case 7:
		m.Delivered = slices.Repeat(oddList(rnd, m.Delivered, oddDelivery(rnd, impl.Delivery{})), oneOf(rnd, []int{1, 1, 1, 60}))
	case 8:
		if len(m.Delivered) > 0 {
			i := rnd.IntN(len(m.Delivered))
			m.Delivered[i] = oddDelivery(rnd, m.Delivered[i])
		}
	}
	return m
}

// randomMeshCall takes its parts from a mesh that was played, so that many an ask is right.
func randomMeshCall(rnd *rand.Rand, rules []impl.Rule) meshCall {
	acts, m := randomActs(rnd, oneOf(rnd, []int{0, 1, 5, 20, 40, 70, 120}))
	c := meshCall{acts: acts, m: m, signed: m.Issuer.Signed, now: m.Now, at: oneOf(rnd, meshNames), s: randomSide(rnd, rules)}
	c.a = impl.Ask{Token: randomToken(rnd, 1+rnd.IntN(4)), Method: "get", Path: oneOf(rnd, meshPaths)}
	if len(m.Sidecars) > 0 {
		car := oneOf(rnd, m.Sidecars)
		c.s, c.at = car.Side, car.Name
		if len(car.Queue) > 0 {
			c.a = car.Queue[0]
		}
	}
	if len(m.Delivered) > 0 {
		c.d = oneOf(rnd, m.Delivered)
		if rnd.IntN(2) == 0 {
			c.a, c.at, c.now = c.d.Ask, c.d.At, c.d.Time
			c.s = impl.Side{Force: m.Versions[len(m.Versions)-1]}
		}
	}
	return c
}

func TestAnyMesh(t *testing.T) {
	rnd := rand.New(rand.NewPCG(8, 1000))
	odd, rules := oddRules(), smallRules()
	for round := range 1500 {
		c := randomMeshCall(rnd, rules)
		switch round % 8 {
		case 0:
			for range 1 + len(c.acts)/6 {
				if i := rnd.IntN(len(c.acts) + 1); i < len(c.acts) {
					c.acts[i] = oddAct(rnd, c.acts[i])
				}
			}
		case 1:
			c.s = oddSide(rnd, c.s, odd)
		case 2:
			c.a = oddAsk(rnd, c.a)
		case 3:
			c.signed = oddList(rnd, c.signed, "x")
			c.now = oneOf(rnd, oddNumbers)
		case 4:
			c.at = oneOf(rnd, nearTexts)
		case 5:
			c.m = oddMesh(rnd, c.m, odd)
		case 6:
			c.d = oddDelivery(rnd, c.d)
			c.acts = oddList(rnd, c.acts, impl.Act{})
		}
		checkMeshCall(t, c)
	}
	checkMeshCall(t, meshCall{})
}

// Acts of which no part is anything, one behind the other.
func TestAnyActs(t *testing.T) {
	rnd := rand.New(rand.NewPCG(8, 1001))
	texts := append(slices.Clone(nearTexts), "p/a", "p/b", "get", "put", "/x", openText, "p/a p/b 1 0 50;")
	for range 80 {
		acts := make([]impl.Act, rnd.IntN(125))
		for i := range acts {
			acts[i] = impl.Act{Kind: rnd.IntN(14) - 1, A: oneOf(rnd, texts), B: oneOf(rnd, texts), N: oneOf(rnd, oddNumbers), Method: oneOf(rnd, texts), Path: oneOf(rnd, texts), Text: oneOf(rnd, texts)}
			if rnd.IntN(2) == 0 {
				acts[i].A, acts[i].B, acts[i].Method, acts[i].Path = oneOf(rnd, meshNames), oneOf(rnd, meshNames), "get", "/x"
			}
		}
		checkMeshCall(t, meshCall{acts: acts})
	}
}

func TestMeshFarTooLong(t *testing.T) {
	m, _, _ := impl.PlayMesh(delivered())
	ask := m.Delivered[0].Ask
	side := impl.Side{Force: m.Versions[0]}
	longSide := impl.Side{Coming: 3, Rules: make([]impl.Rule, 100000), Has: make([]bool, 100000), Serials: make([]int, 100000)}
	longText := strings.Repeat("allow a/b get /\n", 100000)
	checkMeshCall(t, meshCall{acts: make([]impl.Act, 100000), s: longSide, a: ask, signed: m.Issuer.Signed, now: 10, at: "p/b", d: m.Delivered[0]})
	checkMeshCall(t, meshCall{acts: after(delivered(), actPolicy(longText), actForge("p/b", "get", "/", longText), actAsk("p/a", "p/b", longText, longText, 1), at(impl.ActEnrol, longText))})
	long := ask
	long.Token = slices.Repeat(ask.Token, 20000)
	checkMeshCall(t, meshCall{s: side, a: long, signed: m.Issuer.Signed, now: 10, at: "p/b", m: m, d: impl.Delivery{At: "p/b", Ask: long, Version: 1, Time: 10}})
	checkMeshCall(t, meshCall{s: side, a: ask, signed: append(make([]string, 20000), m.Issuer.Signed...), now: 10, at: longText})
	long = ask
	long.Method, long.Path = longText, longText
	checkMeshCall(t, meshCall{s: side, a: long, signed: m.Issuer.Signed, now: 10, at: "p/b", m: m, d: impl.Delivery{At: "p/b", Ask: long, Version: 1, Time: 10}})
	wide := m
	wide.Sidecars = make([]impl.Sidecar, 20000)
	checkMeshCall(t, meshCall{m: wide, d: m.Delivered[0], at: "p/b"})
	wide = m
	wide.Delivered = slices.Repeat(m.Delivered, 10000)
	checkMeshCall(t, meshCall{m: wide, d: m.Delivered[0], at: "p/b"})
	wide = m
	wide.Versions = append(make([]impl.Snapshot, 20000), m.Versions...)
	wide.Issuer.Signed = slices.Repeat(m.Issuer.Signed, 100)
	checkMeshCall(t, meshCall{m: wide, d: m.Delivered[0], at: "p/b"})
	wide = m
	wide.Sidecars = []impl.Sidecar{{Log: make([]impl.Record, 20000), Queue: make([]impl.Ask, 20000)}}
	checkMeshCall(t, meshCall{m: wide, d: m.Delivered[0], at: "p/b"})
}

// Two answers share nothing: what becomes of one is not seen in the other, nor in a later one.
func TestMeshAnswersAreNew(t *testing.T) {
	rnd := rand.New(rand.NewPCG(8, 1002))
	for range 20 {
		acts, _ := randomActs(rnd, 120)
		a, codes, _ := impl.PlayMesh(acts)
		b, _, _ := impl.PlayMesh(acts)
		kept := standing(b)
		for _, d := range a.Delivered {
			got, _ := impl.DeliveredAt(a, d.At)
			more, _ := impl.DeliveredAt(a, d.At)
			if !apart(a, b, codes, got, more) {
				t.Fatal("shared")
			}
		}
		for i := range a.Sidecars {
			wipe(a.Sidecars[i].Queue)
			wipe(a.Sidecars[i].Log)
			wipe(a.Sidecars[i].Side.Force.Policy)
		}
		for i := range a.Delivered {
			wipe(a.Delivered[i].Ask.Token)
		}
		wipe(a.Versions)
		wipe(a.Issuer.Works)
		wipe(a.Issuer.Signed)
		if c, _, _ := impl.PlayMesh(acts); standing(b) != kept || !sameMesh(b, c) {
			t.Fatal("changed")
		}
	}
	one, two := impl.NewMesh(), impl.NewMesh()
	one.Issuer.Works = append(one.Issuer.Works, impl.Work{Name: "p/a"})
	if !sameMesh(two, impl.NewMesh()) {
		t.Error(two)
	}
}

// FuzzMesh plays what it is fed: each four bytes are an act.
func FuzzMesh(f *testing.F) {
	f.Add([]byte{1, 0, 0, 0, 1, 1, 0, 0, 3, 0, 0, 0, 6, 0, 0, 0, 6, 1, 0, 0, 7, 8, 50, 1, 10, 1, 0, 0, 8, 1, 0, 0, 10, 0, 0, 0})
	f.Add([]byte{})
	f.Fuzz(func(t *testing.T, fed []byte) {
		w := newMeshWalk(t, nil, map[string]int{})
		for ; len(fed) > 3 && len(w.acts) < impl.MaxActs; fed = fed[4:] {
			who, n := int(fed[1]), int(fed[2])
			a := impl.Act{Kind: int(fed[0]) % 12, A: meshNames[who%5], B: meshNames[who/5%5], N: n - 1, Method: "get", Path: meshPaths[fed[3]%4]}
			if fed[3] >= 200 {
				a.Method = "put"
			}
			switch signed := w.mesh.Issuer.Signed; {
			case a.Kind == impl.ActPolicy:
				a.Text = meshPolicies[n%len(meshPolicies)]
			case a.Kind == impl.ActForge && len(signed) > 0:
				a.Text = signed[n%len(signed)]
			}
			w.step(a)
		}
		checkMeshCall(t, meshCall{acts: w.acts, m: w.mesh})
	})
}
