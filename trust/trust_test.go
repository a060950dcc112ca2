package trust_test

import (
	"fmt"
	"math/rand"
	"slices"
	"testing"

	"fedchat/api"
	. "fedchat/trust"
)

func other() api.Keys {
	return api.Keys{User: "@b:s", Master: 9, Devices: []api.Device{{Id: "d", Signed: true}, {Id: "e"}}}
}

func TestOf(t *testing.T) {
	own := api.Keys{User: "@a:s", Master: 3}
	bare := other()
	bare.Master = 0
	twice := api.Keys{User: "@b:s", Master: 9, Devices: []api.Device{{Id: "d"}, {Id: "d", Signed: true}}}
	for i, c := range []struct {
		own, other api.Keys
		device     string
		verified   []int
		blocked    []string
		want       api.Trust
	}{
		{own, other(), "d", nil, nil, api.CrossSigned}, {own, other(), "d", []int{3, 9}, nil, api.Verified}, {own, other(), "e", []int{9}, nil, api.Unset}, {own, other(), "x", []int{9}, nil, api.Blocked}, {own, api.Keys{}, "", nil, nil, api.Blocked},
		{own, other(), "d", []int{9}, []string{"@b:s/d"}, api.Blocked}, {own, other(), "d", nil, []string{"@b:s/e", "@a:s/d", "d"}, api.CrossSigned}, {own, other(), "e", nil, []string{"@b:s/e"}, api.Blocked},
		{own, bare, "d", []int{0}, nil, api.Unset}, {bare, bare, "d", nil, nil, api.Unset}, {other(), other(), "d", nil, nil, api.Verified}, {other(), other(), "e", nil, nil, api.Unset},
		{api.Keys{User: "@b:s", Master: 8}, other(), "d", nil, nil, api.CrossSigned}, {api.Keys{User: "@a:s", Master: 9}, other(), "d", nil, nil, api.CrossSigned}, {own, twice, "d", nil, nil, api.Unset},
	} {
		if got := Of(c.own, c.other, c.device, c.verified, c.blocked); got != c.want {
			t.Errorf("%d: %d, want %d", i, got, c.want)
		}
	}
}

func TestVerifyShieldAndChanged(t *testing.T) {
	for i, c := range []struct {
		l      []int
		master int
		want   string
	}{{nil, 5, "[5]"}, {[]int{7, 5, 7}, 5, "[5 7]"}, {[]int{7, -1}, 0, "[-1 7]"}, {[]int{7}, -3, "[7]"}, {nil, 0, "[]"}} {
		old := slices.Clone(c.l)
		if got := Verify(c.l, c.master); fmt.Sprint(got) != c.want || !slices.Equal(old, c.l) {
			t.Errorf("Verify %d: %v", i, got)
		}
	}
	for i, c := range []struct {
		t    []api.Trust
		want api.Trust
	}{{nil, api.Verified}, {[]api.Trust{api.Verified, api.Unset, api.CrossSigned}, api.Unset}, {[]api.Trust{api.CrossSigned}, api.CrossSigned}, {[]api.Trust{7, 9}, 7}, {[]api.Trust{-4, 0}, -4}} {
		if got := Shield(c.t); got != c.want {
			t.Errorf("Shield %d: %d", i, got)
		}
	}
	for _, c := range [][3]int{{0, 0, 0}, {0, 5, 0}, {5, 5, 0}, {5, 6, 1}, {5, 0, 1}} {
		if Changed(api.Keys{Master: c[0]}, api.Keys{Master: c[1], User: "x"}) != (c[2] == 1) {
			t.Error("Changed", c)
		}
	}
}

func TestSend(t *testing.T) {
	own := api.Keys{User: "@a:s"}
	twice := api.Keys{User: "@b:s", Master: 9, Devices: []api.Device{{Id: "z", Signed: true}, {Id: "d", Signed: true}, {Id: "d"}}}
	for i, c := range []struct {
		other   api.Keys
		blocked []string
		strict  bool
		want    string
		err     api.Errno
	}{
		{other(), nil, false, "[d e]", api.OK}, {other(), nil, true, "[]", api.ErrTrust}, {other(), []string{"@b:s/e"}, false, "[d]", api.OK}, {other(), []string{"@b:s/e"}, true, "[d]", api.OK}, {other(), []string{"@b:s/e", "@b:s/d"}, true, "[]", api.OK}, {api.Keys{}, nil, true, "[]", api.OK}, {twice, nil, true, "[z d d]", api.OK},
	} {
		if got, err := Send(own, c.other, nil, c.blocked, c.strict); fmt.Sprint(got) != c.want || err != c.err {
			t.Errorf("%d: %v, %d", i, got, err)
		}
	}
}

func TestTrustIsMonotone(t *testing.T) {
	source := rand.New(rand.NewSource(1))
	for range 5000 {
		keys := func() api.Keys {
			k := api.Keys{User: []string{"@a:s", "@b:s"}[source.Intn(2)], Master: source.Intn(3)}
			for range source.Intn(3) {
				k.Devices = append(k.Devices, api.Device{Id: []string{"d", "e"}[source.Intn(2)], Signed: source.Intn(2) == 0})
			}
			return k
		}
		own, of := keys(), keys()
		verified, blocked := []int{}, []string{}
		if source.Intn(2) == 0 {
			verified = Verify(verified, source.Intn(3))
		}
		if source.Intn(3) == 0 {
			blocked = append(blocked, "@a:s/d")
		}
		got := Of(own, of, "d", verified, blocked)
		i := slices.IndexFunc(of.Devices, func(d api.Device) bool { return d.Id == "d" })
		if got >= api.CrossSigned && (i < 0 || !of.Devices[i].Signed || slices.Contains(blocked, of.User+"/d")) {
			t.Fatal("a device is trusted", of, got)
		}
		if got == api.Verified && !slices.Contains(verified, of.Master) && !(own.User == of.User && own.Master == of.Master) {
			t.Fatal("a device is verified", own, of)
		}
		if Of(own, of, "d", Verify(verified, source.Intn(4)), blocked) < got {
			t.Fatal("verifying lowers the trust")
		}
		if Of(own, of, "d", verified, append(blocked, []string{"@a:s/d", "@b:s/d", "x"}[source.Intn(3)])) > got {
			t.Fatal("blocking raises the trust")
		}
	}
}
