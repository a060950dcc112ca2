package digest_test

import (
	"fmt"
	"math/rand"
	"slices"
	"testing"

	"fedchat/api"
	"fedchat/clone"
	"fedchat/codec"
	. "fedchat/digest"
	"fedchat/num"
	"fedchat/sample"
	"fedchat/sums"
)

func with(ids ...int) api.Room {
	r := api.Room{}
	for _, id := range ids {
		r.Events = append(r.Events, api.Event{Id: id})
	}
	return r
}

func TestExamples(t *testing.T) {
	a, b := with(1, 2), with(2, 3)
	b.Id = "another"
	if got := fmt.Sprint(Differ(a, b), Common(a, b), Behind(a, b), Behind(b, a), Same(a, b)); got != "[1 3] [2] 1 1 false" {
		t.Error(got)
	}
	if got := fmt.Sprint(Differ(with(2, 2, 1), with(1)), Common(with(3, 3, 2), with(2, 3, 3)), Behind(with(), with(4, 4, 5)), Same(with(2, 2), with(2)), Same(api.Room{}, api.Room{})); got != "[2] [2 3] 2 true true" {
		t.Error("ids that occur twice", got)
	}
}

func TestRoom(t *testing.T) {
	r := with(5, -7, 9, 6, 8)
	r.Id = "!r:a"
	r.Rows = []api.Row{{Id: 5, Status: api.Soft, Pos: 3, Gone: true}, {Id: 5, Status: api.Rejected}, {Id: 9, Status: api.Rejected}, {Id: 6, Status: api.Accepted}, {Id: 8, Status: 77}}
	r.State = api.State{{Kind: 3, Key: "k", Id: 5}, {Kind: -1, Id: -2}}
	b := codec.PutText(nil, "!r:a")
	for _, n := range []int{5, 5, 4, -7, 0, 9, 2, 6, 4, 8, 77, 2, 3} {
		b = codec.PutInt(b, n)
	}
	b = codec.PutInt(codec.PutInt(codec.PutText(b, "k"), 5), -1)
	b = codec.PutInt(codec.PutText(b, ""), -2)
	if Room(r) != sums.Sum(b) {
		t.Error("Room")
	}
	if Room(api.Room{}) != sums.Sum([]byte{0, 0, 0}) {
		t.Error("the empty room")
	}
	for i, change := range []func(r *api.Room){
		func(r *api.Room) { r.Rows[0].Status = api.Accepted }, func(r *api.Room) { r.Rows[0].Pos++ }, func(r *api.Room) { r.Rows[3].Gone = true }, func(r *api.Room) { r.Rows[3].Status = api.Soft }, func(r *api.Room) { r.Rows[1].Status = 0 }, func(r *api.Room) { r.Heads = []int{1} }, func(r *api.Room) { r.Events[0].Time++ }, func(r *api.Room) { r.Next++ },
	} {
		x := clone.Room(r)
		change(&x)
		if Room(x) != Room(r) {
			t.Errorf("the change %d makes a difference", i)
		}
	}
	for i, change := range []func(r *api.Room){
		func(r *api.Room) { r.Id = "!r:b" }, func(r *api.Room) { r.Events = r.Events[1:] }, func(r *api.Room) { r.Events[0].Id++ }, func(r *api.Room) { r.Rows[0].Status = api.Rejected }, func(r *api.Room) { r.Rows = r.Rows[2:] }, func(r *api.Room) { r.State[0].Id++ }, func(r *api.Room) { r.State[0].Key = "" }, func(r *api.Room) { r.State = r.State[1:] }, func(r *api.Room) { slices.Reverse(r.Events) },
	} {
		x := clone.Room(r)
		change(&x)
		if Room(x) == Room(r) {
			t.Errorf("the change %d makes no difference", i)
		}
	}
}

func TestServersThatKnowTheSameAgree(t *testing.T) {
	source := rand.New(rand.NewSource(1))
	for range 20 {
		s := sample.Random(source.Intn, 5+source.Intn(18))
		a, b := sample.InOrder(s), sample.Received(s, source.Intn)
		if len(b.Waiting) > 0 || Room(a) != Room(b) || !Same(a, b) {
			t.Fatal("the numbers differ", len(b.Waiting))
		}
		other := sample.Received(sample.Random(source.Intn, 10), source.Intn)
		part := clone.Room(a)
		part.Events = part.Events[source.Intn(len(part.Events)):]
		for _, x := range []api.Room{other, part} {
			differ, common := Differ(a, x), Common(a, x)
			if len(differ) != Behind(a, x)+Behind(x, a) || Same(a, x) != (len(differ) == 0) || !slices.Equal(differ, Differ(x, a)) || !slices.Equal(common, Common(x, a)) {
				t.Fatal("Differ or Common")
			}
			all := []int{}
			for _, e := range slices.Concat(a.Events, x.Events) {
				all = append(all, e.Id)
			}
			if !slices.Equal(num.Union(differ, common), num.Sorted(all)) {
				t.Fatal("some ids are in neither")
			}
		}
	}
}
