package home

import (
	"slices"

	"fedchat/api"
	"fedchat/devices"
	"fedchat/ids"
	"fedchat/media"
	"fedchat/num"
	"fedchat/onetime"
	"fedchat/retain"
)

// changed returns the server with another device list, if there is no error.
func (d deed) changed(l []api.Keys, err api.Errno) result {
	if err != api.OK {
		return failure(err)
	}
	d.server.Keys = l
	d.server.Stream++
	return result{server: d.server}
}

func addDevice(d deed) result {
	return d.changed(devices.Add(d.server.Keys, d.user, api.Device{Id: d.name(0), Key: d.act.N}, d.server.Stream))
}

func forget(d deed) result {
	return d.changed(devices.Remove(d.server.Keys, d.user, d.name(0), d.server.Stream))
}

func sign(d deed) result {
	return d.changed(devices.Sign(d.server.Keys, d.user, d.name(0), d.server.Stream))
}

func cross(d deed) result {
	return d.changed(devices.Cross(d.server.Keys, d.user, d.act.N, d.server.Stream))
}

func upload(d deed) result {
	entry, _ := devices.Get(d.server.Keys, d.user)
	if !slices.ContainsFunc(entry.Devices, func(own api.Device) bool { return own.Id == d.name(0) }) {
		return failure(api.ErrNone)
	}
	l, err := onetime.Upload(d.server.OneTime, d.user, d.name(0), d.act.N)
	if err != api.OK {
		return failure(err)
	}
	d.server.OneTime = l
	return result{server: d.server}
}

func claim(d deed) result {
	l, key, err := onetime.Claim(d.server.OneTime, d.name(0), d.name(1))
	if err != api.OK {
		return failure(err)
	}
	d.server.OneTime = l
	return result{server: d.server, output: num.Text(key)}
}

func fetch(d deed) result {
	l, err := media.Fetch(d.server.Media, d.server.Name, d.name(0), d.name(1), d.act.N, d.server.Now)
	if err != api.OK {
		return failure(err)
	}
	d.server.Media = l
	return result{server: d.server}
}

func isAdmin(user string) bool {
	return ids.LocalOf(user) == admin
}

func block(d deed) result {
	if !isAdmin(d.user) {
		return failure(api.ErrLevel)
	}
	d.server.Media = media.Quarantine(d.server.Media, d.name(0), d.name(1))
	return result{server: d.server}
}

func purge(d deed) result {
	if !isAdmin(d.user) {
		return failure(api.ErrLevel)
	}
	if d.act.N < 0 || d.act.N > api.MaxTime {
		return failure(api.ErrRange)
	}
	now := d.server.Now
	d.server.Media = media.Expire(d.server.Media, d.server.Name, now, d.act.N)
	return result{server: eachRoom(d.server, func(r api.Room) api.Room { return retain.Expire(r, now) })}
}
